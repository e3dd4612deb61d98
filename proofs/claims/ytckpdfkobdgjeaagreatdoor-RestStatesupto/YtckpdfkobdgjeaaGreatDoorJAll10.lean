/- Several texts in one: CutU, CutC, CutD. -/
import Derived.Test.YtckpdfkobdgjeaaGreatDoorJAll9
import Derived.Test.YtckpdfkobdgjeaaGreatDoorJAnyI
import Derived.RangeFuncNested
namespace Go.Proofs.YtckpdfkobdgjeaaGreatDoor
set_option maxRecDepth 100000
set_option maxHeartbeats 4000000
open Go.RowKit Go.Shelf
open Go.RowKit Go.Shelf
attribute [local go_sem] Oper.semAt_some
set_option linter.unusedSectionVars false
variable [Inhabited Mk]
theorem S7 (w:World) (a:Option Addr) (n d:Nat) (l:QL) (q:Int) (h:QsIn w a n d l) :
 zC 189 #[.slice a n d,zI q] w fun e w'=>e=.returned (zI (Lj l q))/\Below w.heap.size w w':=by
 have j:=zh h.len;have p:=h.capb;have r:=h.le;by_cases c:z9 l=0
 ·by_cases f:0<=q/\q<l.length
  ·rw [L0 c f];rw [<-j.o] at f;obtain ⟨s,t⟩:=f;go_enter Tryz.func189,Tryz.ntmps189;go_wp2_with fail
   refine (wF w a n d l h).mono ?_;rintro e i ⟨rfl,b⟩;rw [c];go_wp2;go_ret;exact ⟨rfl,b⟩
  rw [Jp c f];rw [<-j.o] at f;by_cases g:q<0
  ·go_enter Tryz.func189,Tryz.ntmps189;go_wp2_with fail
   refine (wF w a n d l h).mono ?_;rintro e i ⟨rfl,b⟩;rw [c];go_wp2;go_ret;exact ⟨rfl,b⟩
  have k:(n:Int)<=q:=by omega
  go_enter Tryz.func189,Tryz.ntmps189;go_wp2_with fail
  refine (wF w a n d l h).mono ?_;rintro e i ⟨rfl,b⟩;rw [c];go_wp2;go_ret;exact ⟨rfl,b⟩
 ·rw [IZ c];have m:(z9 l != 0)=true:=by simp [c]
  go_enter Tryz.func189,Tryz.ntmps189;go_wp2_with fail
  refine (wF w a n d l h).mono ?_;rintro e i ⟨rfl,b⟩;go_wp2;go_ret;exact ⟨rfl,b⟩
theorem Ic (w:World) (a:Option Addr) (n p:Nat) (l:QL) (q:Int) (h:QsIn w a n p l) (ar:z9 l=0) (aT:0<=q) (aU:q<n) :
 zC 177 #[.slice a n p,zI q] w fun e w'=>∃ ag am,e=.returned (.tuple #[.slice ag n am,zI 0])/\BoolsIn w' ag n am (UY l n q)/\Below w.heap.size w w':=by
 have R:=zh h.len;have a6:=h.capb;have a8:=h.le;have Y:=zh (yY ar);have aA:0<n:=by have:=Y.o.pos;have:=R.o;omega
 have aP:n<=5:=by have:=Y.o.five;have:=R.o;omega
 have aQ:Lj l q=0:=L0 ar ⟨aT,by rw [<-R.o];exact aU⟩;obtain ⟨b,m,rfl,ad⟩:=h.cells aA;have a4:b<w.heap.size:=block_lt_of_cell (ad 0 aA).1;have aE:=zh ad;have aH:=zh h;clear ad h;have aS:=run_make_row' (P:=Tryz.prog) 211 4 (.bool false) 1 Tryz.underlying211 Tryz.info4 rfl .i64 .i64 n (by omega) (by omega);refine (callsIn_wide (n:=4)).1 ?_;refine callsIn_of_wp_marks Tryz.func177 rfl trivial ?_ rfl;simp only [Tryz.ntmps177,List.size_toArray,List.length_cons,List.length_nil,Nat.reduceAdd,Nat.reduceSub,Array.replicate_succ,Array.replicate_zero,List.push_toArray,List.append_toArray,List.nil_append,List.cons_append]
 gi_wp2_with fail
 refine ⟨trivial,(callsIn_wide.2 (S7 _ _ n p l q (aH.o.later ((Below.refl _ w).alloc (Nat.le_refl _) _)))).mono ?_⟩;rintro e d ⟨rfl,N⟩;rw [aQ];have aL:Boxed d w.heap.size 3 (zI q):=(N.block _ (by simp)).trans (Boxed.new w 3 (zI q));have af:=zh (za ((Below.refl w.heap.size w).alloc (Nat.le_refl _) _) N);have aW:w.heap.size<d.heap.size:=by have:=N.size;simp at this;omega
 have aF:Zh (∀ i,i<n->d.cell? (zA b (m+i*3+1))=some (zI (qu l i).parent)):=fun i u=>cell_later af.o (aE.o i u).2.1;clear N
 gi_wp2_with fail
 clear aS;obtain ⟨t,H⟩:=qA ((d.alloc (.cells (madeCells #[.bool false] n) 4)).alloc (.cells #[.slice (some ⟨d.heap.size,0,none⟩) n n] 211));have aK:Zh (t.rowIs d.heap.size 4 n (fun _=>.bool false)):=by rw [<-H];exact (World.rowIs_made d _ n 4).alloc _
 have al:Zh (Boxed t (d.heap.size+1) 211 (.slice (zO d.heap.size 0) n n)):=by
  rw [<-H];have:=Boxed.new (d.alloc (.cells (madeCells #[.bool false] n) 4)) 211 (.slice (zO d.heap.size 0) n n);rwa [World.size_alloc] at this
 have S:Zh (zL d t):=by rw [<-H];exact ((Below.refl _ d).alloc (Nat.le_refl _) _).alloc (by simp) _
 have aC:t.heap.size=d.heap.size+2:=by rw [<-H];simp
 rw [H];clear H;refine wpIn_loop (FD w.heap.size d.heap.size b m n p l q t) (FW n) ?start ?round
 case start=>exact ⟨0,_,[],undef,undef,undef,undef,undef,undef,undef,rfl,by omega,⟨rfl,rfl,rfl,Nat.le_refl _,fun _ _ _=>rfl,aK.o⟩,fun i u=>by omega,fun i _ _=>rfl,fun D z=>by simp at z,by simp⟩
 case round =>
  rintro a k ⟨j,f,ao,u8,bb,bc,bd,be,bf,aZ,rfl,a7,ab,ax,av,ay,az⟩;have s:=zh ab;have V:=zh ax;have O:=zh av;have Q:=zh ay;have W:=zh az;have ae:d.heap.size+2<=k.heap.size:=by have:=ab.size;omega
  clear ab ax av ay az;generalize au:(ao.map fun D=>({ target:=.collected D,args:=#[] }:Deferred))=dm;have U:=zh au;clear au;by_cases J:j<n
  ·have aR:(j:Int)<n:=by omega
   gi_wp2_with fail
   refine ⟨trivial,(Hh Fence.wide _ trivial rfl _ _ _ ⟨_,_,_,rfl⟩).mono ?_⟩;rintro e bg ⟨rfl,rfl⟩
   gi_wp2_with fail
   have ah:=Boxed.new k 3 (zI j);have aa:=Boxed.new (k.alloc (.cells #[zI j] 3)) 37 (.slice (zO b m) n p);have Z:=Boxed.new ((k.alloc (.cells #[zI j] 3)).alloc (.cells #[.slice (zO b m) n p] 37)) 3 (zI j);rw [World.size_alloc] at aa;rw [World.size_alloc,World.size_alloc] at Z;have C:zL k (((k.alloc (.cells #[zI j] 3)).alloc (.cells #[.slice (zO b m) n p] 37)).alloc (.cells #[zI j] 3)):=(((Below.refl _ k).alloc (Nat.le_refl _) _).alloc (by simp) _).alloc (by simp;omega) _;have aV:(((k.alloc (.cells #[zI j] 3)).alloc (.cells #[.slice (zO b m) n p] 37)).alloc (.cells #[zI j] 3)).heap.size=k.heap.size+3:=(by simp);have ai:=(ah.alloc (.cells #[.slice (zO b m) n p] 37)).alloc (.cells #[zI j] 3);have aj:=aa.alloc (.cells #[zI j] 3);obtain ⟨W0,ap⟩:=qA (((k.alloc (.cells #[zI j] 3)).alloc (.cells #[.slice (some ⟨b,m,none⟩) n p] 37)).alloc (.cells #[zI j] 3));rw [ap] at aV C ai aj Z ⊢;clear ap ah aa;have aN:Boxed W0 (d.heap.size+1) 211 (.slice (zO d.heap.size 0) n n):=(C.block _ (by omega)).trans (s.o.box al.o (by omega));have ak:Boxed t w.heap.size 3 (zI q):=(S.o.block _ aW).trans aL;have aM:Boxed W0 w.heap.size 3 (zI q):=(C.block _ (by omega)).trans (s.o.box ak (by omega));have aD:W0.rowIs d.heap.size 4 n f:=s.o.row.of_block (C.block _ (by omega));have an:∀ i,i<n->W0.cell? (zA b (m+i*3+1))=some (zI (qu l i).parent):=fun i u=>by
    have c1:=cell_later S.o (aF.o i u);have c2:k.cell? (zA b (m+i*3+1))=some (zI (qu l i).parent):=(World.cell?_of_block (w:=t) (a:=(zA b (m+i*3+1))) (s.o.block b (by omega) (by omega))).trans c1;exact cell_later C c2
   have aG:=zh an;have aJ:=zh aD;clear an aD ak;refine wpIn_rangeFunc_ownG (F:=Fence.wide) rfl (by omega) (gf:=130) (lb:=#[.pointer (zO (k.heap.size+1+1) 0),.pointer (zO (k.heap.size+1) 0)]) rfl trivial (enters_of Tryz.func130 (by kernel_rfl) rfl)
    (Hj Fence.wide _ trivial rfl (by omega) (k.heap.size+1+1) (k.heap.size+1) k.heap.size b m n p l j Y.o R.o aR W0 Z aj (by omega) (by omega) aG.o)
    YO.trans (Rs (by omega)) (Below.refl _ _) (fun _=>rfl)
    (fun M A=>(∀ x∈M,x≠q)/\After W0 A d.heap.size n f)
    (fun c M A=>(c=.exit 2/\q∈M)/\After W0 A d.heap.size n (fun i=>if i=j then .bool true else f i))
    (OwnFrom.and (ownFrom_pure _ _) (After.own (Nat.le_refl _) (by omega)))
    (fun c=>OwnFrom.and (ownFrom_pure _ _) (After.own (Nat.le_refl _) (by omega)))
    ⟨fun x aY=>by simp at aY,⟨rfl,rfl,rfl,Nat.le_refl _,fun _ _ _=>rfl,aJ.o⟩⟩
    (fun x=>{ tmps:=#[.slice (zO b m) n p,zI q,undef,.pointer (zO w.heap.size 0),zN,zI 0,zI 0,.pointer (zO (d.heap.size+1) 0),.pointer (zO k.heap.size 0),zI x,.slice (zO b m) n p,zI q,zI 0,zI 0,.bool false,undef,.slice (zO b m) n p,zI n,.slice (zO d.heap.size 0) n n,.slice (zO b m) n p,zI n,zI j,.bool true,zI j,.slice (zO b m) n p,zI j,.func (.func 130) #[] #[.pointer (zO (k.heap.size+1+1) 0),.pointer (zO (k.heap.size+1) 0)],zI x,undef,undef,undef,undef,undef,undef,aZ,undef],defers:=[] }) ?assign ?body ?done ?stop
   case assign =>
    intro l x k a0 I
    gi_wp2
    exact I
   case body =>
    rintro ba M x A ⟨L,r⟩ a9;have X:=zh L;have a2:=(r.box aM (by omega)).cell;have a3:=(r.box aN (by omega)).cell;have a1:=(r.box ai (by omega)).cell;have aO:=r.row.cell J;rw [O.o j (Nat.le_refl _) J] at aO;have fr:=r.row.frozen j;have G:=zh r;clear L r;cases g:(x==q) with
    | true =>
     gi_wp2
     exact ⟨(KeepsOthers.setCell _ _ _).from _,⟨rfl,by rw [eq_of_beq g];simp⟩,G.o.hit j _⟩
    | false =>
     gi_wp2
     exact ⟨KeepsFrom.refl _ _,⟨Below.refl _ _,fun v aX=>aX⟩,fun y E=>by
      rw [List.mem_append] at E;rcases E with E | E
      ·exact X.o y E
      simp at E;subst E;exact ne_of_beq_false g,G.o⟩
   case done =>
    rintro D bh A z rfl ⟨L,r⟩ I;have X:=zh L;have G:=zh r;clear L r
    gi_wp2
    rw [<-U.o];exact ⟨Qd J s.o C G.o ae aC V.o O.o Q.o W.o z I (by rw [Lu X.o];exact O.o j (Nat.le_refl _) J) (fun i _=>rfl),by simp [FW,intOf];omega⟩
   case stop =>
    rintro D c M A z aB ⟨⟨rfl,aw⟩,r⟩ I;have aI:Zh (yG l (j:Int) q=true):=Wu.2 (aB.subset aw);have G:=zh r;clear aw r aB
    gi_wp2
    rw [<-U.o];exact ⟨Qd J s.o C G.o ae aC V.o O.o Q.o W.o z I (by rw [if_pos rfl,aI.o]) (fun i u=>if_neg u),by simp [FW,intOf];omega⟩
  obtain rfl:n=j:=by omega
  have a5:=(s.o.box al.o (by omega)).cell
  gi_wp2
  show LeavesInM _ _ _ _ _ _ dm _ _;rw [<-U.o];refine Uz (d.heap.size+2) ao k ae W.o (fun D z=>⟨(Q.o D z).1,(Q.o D z).2.2⟩) (fun A aq=>?_);refine ⟨_,results_tmp2 rfl _ _ _,_,_,rfl,Km (N4 l n q).symm (s.o.row.of_block (aq.block _ (by omega))) (fun i u=>by rw [V.o i u,Sa l n q i u]) aP,?_⟩;exact (za af.o S.o).trans (((s.o.below (B:=w.heap.size) (by omega) (by omega))).trans (aq.mono (by omega)))
theorem OA (w:World) (a:Option Addr) (c b:Nat) :
 zC 178 #[.slice a c b] w fun e w'=>e=.returned (.func (.func 190) #[] #[.pointer (zO w.heap.size 0)])/\w'=w.alloc (.cells #[.slice a c b] 38):=by
 go_enter Tryz.func178,Tryz.ntmps178;go_wp2;go_ret;exact ⟨rfl,rfl⟩
abbrev BN (n:Nat):={ i:Nat // i<n }
def dn (n:Nat):Nat->List (BN n)
 | 0=>[]
 | k+1=>dn n k++(if h:k<n then [⟨n-1-k,by omega⟩] else [])
theorem Iu (n:Nat):∀ k,k<=n->(dn n k).length=k
 | 0,_=>rfl
 | k+1,h=>by rw [dn,dif_pos (by omega),List.length_append,Iu n k (by omega)];rfl
theorem LJ {n m:Nat} (h:m<n):dn n (n-m)=dn n (n-(m+1))++[⟨m,h⟩]:=by
 rw [show n-m=(n-(m+1))+1 by omega,dn,dif_pos (by omega)]
 congr 2
 apply Subtype.ext;show n-1-(n-(m+1))=m;omega
theorem Ra {n:Nat}:∀ {k:Nat},k<=n->∀ {i:Nat} (h:i<n),n-k<=i->(⟨i,h⟩:BN n)∈dn n k
 | 0,_,i,h,hi=>by omega
 | k+1,hk,i,h,hi=>by
  rw [dn,dif_pos (by omega),List.mem_append];by_cases e:i=n-1-k
  ·right;subst e;exact List.mem_singleton.2 rfl
  left;exact Ra (by omega) h (by omega)
def Fi (x:Bk):Value:=.agg #[zI x.id,zI x.rq.queue,zI x.rq.fr,zI x.rq.un,zI x.rq.kind,.slice x.rq.pa x.rq.pn x.rq.pc,.slice x.ba x.bn x.bc]
theorem Ox (n:Nat) (hn:1<=n) (R r u c f a z:Nat) (b:BL) (ak:a<=12) (_hle:a<=z) (_hcb:z<=9223372036854775807) (h:c<u) (Z:r<u) (l y:List (BN a)->World->Prop)
 (O:∀ j x d,l j d->j.length<a->YieldAt Fence.wide (n-1) Tryz.prog R #[zI (x.1:Int),Fi (bk b x.1)] d fun e q =>
  (e=.returned (.bool true)/\l (j++[x]) q/\Below u d q)\/(e=.returned (.bool false)/\y (j++[x]) q))
 (d:World) (Y:d.cell? (zA r 0)=some (.slice (zO c f) a z))
 (P:∀ i,i<a->d.cell? (zA c (f+i*7))=some (zI (bk b i).id)/\d.cell? (zA c (f+i*7+1))=some (zI (bk b i).rq.queue)/\d.cell? (zA c (f+i*7+2))=some (zI (bk b i).rq.fr)/\d.cell? (zA c (f+i*7+3))=some (zI (bk b i).rq.un)/\d.cell? (zA c (f+i*7+4))=some (zI (bk b i).rq.kind)/\d.cell? (zA c (f+i*7+5))=some (.slice (bk b i).rq.pa (bk b i).rq.pn (bk b i).rq.pc)/\d.cell? (zA c (f+i*7+6))=some (.slice (bk b i).ba (bk b i).bn (bk b i).bc))
 (X:l [] d) :
 CallsIn Fence.wide n Tryz.prog 190 #[.func (.yield R) #[] #[],.pointer (zO r 0)] d fun e q=>(∃ v,e=.returned v)/\((∃ S,S=dn a a/\l S q)\/(∃ j,(∃ k,k<=a/\j=dn a k)/\y j q)):=by
 have W:=zh O;have V:=zh P;clear O P;refine callsIn_of_wp Tryz.func190 rfl trivial ?_ rfl;simp only [Tryz.ntmps190,List.size_toArray,List.length_cons,List.length_nil,Nat.reduceAdd,Nat.reduceSub,Array.replicate_succ,Array.replicate_zero,List.push_toArray,List.append_toArray,List.nil_append,List.cons_append]
 gi_wp2
 gi_loopw [3] (fun i wr=>∃ m:Nat,m<=a/\i=zI ((m:Int)-1)/\l (dn a (a-m)) wr/\Below u d wr) (fun i _=>(intOf i+1).toNat)
 case atStart=>exact ⟨a,Nat.le_refl _,rfl,by rw [Nat.sub_self];exact X,Below.refl _ _⟩
 case round =>
  obtain ⟨m,am,rfl,M,A⟩:=hrel;have B:=zh M;have g:=zh A;have al:=(A.cell (p:=(zA r 0)) Z).trans Y;clear M A;cases m with
  | zero =>
   have t:((0:Nat):Int)-1=-1:=rfl;rw [t]
   gi_wp2
   go_end0
   exact ⟨⟨_,rfl⟩,.inl ⟨_,rfl,B.o⟩⟩
  | succ m =>
   have t:((m+1:Nat):Int)-1=m:=(by omega);rw [t];have s:m<a:=(by omega);have an:(m:Int)<a:=(by omega);obtain ⟨fn,tmps,assign,body,ab,aa⟩:=W.o _ ⟨m,s⟩ wr B.o (by rw [Iu _ _ (by omega)];omega);obtain ⟨D,E,F,G,H,I,J⟩:=V.o m s;have ad:=(g.o.cell (p:=(zA c (f+m*7))) h).trans D;have ae:=(g.o.cell (p:=(zA c (f+m*7+1))) h).trans E;have af:=(g.o.cell (p:=(zA c (f+m*7+2))) h).trans F;have ag:=(g.o.cell (p:=(zA c (f+m*7+3))) h).trans G;have ah:=(g.o.cell (p:=(zA c (f+m*7+4))) h).trans H;have ai:=(g.o.cell (p:=(zA c (f+m*7+5))) h).trans I;have aj:=(g.o.cell (p:=(zA c (f+m*7+6))) h).trans J
   dsimp only [Fi] at ab
   clear D E F G H I J t
   gi_wp2
   refine aa.mono ?_;rintro e C (⟨rfl,L,Q⟩ | ⟨rfl,N⟩)
   ·have w:Zh (l (dn a (a-m)) C):=zh (by rw [LJ s];exact L);have U:=zh (g.o.trans Q);clear L Q
    gi_wp2
    go_roundw
    case rel=>exact ⟨m,by omega,by go_num,w.o,U.o⟩
    case measure=>simp [intOf]
   have w:Zh (y (dn a (a-m)) C):=zh (by rw [LJ s];exact N);clear N
   gi_wp2
   refine bodyPost_ret (results_none rfl _ _ _) rfl ?_;exact ⟨⟨_,rfl⟩,.inr ⟨_,⟨a-m,by omega,rfl⟩,w.o⟩⟩
theorem N9 (n:Nat) (hn:1<=n) (d:Nat) (g:Option Addr) (a e:Nat) (b:BL) (D:a<=12) (w:World) (f:BksIn w g a e b) (o:0<a) (j:w.cell? (zA d 0)=some (.slice g a e)) :
 SeqStopsK Fence.wide n Tryz.prog 190 #[.pointer (zO d 0)] (fun x:BN a=>#[zI (x.1:Int),Fi (bk b x.1)]) (Below w.heap.size) (fun J=>J=dn a a) (fun I=>∃ k,k<=a/\I=dn a k) a w:=fun l p q r c _ _ F C=>by
 obtain ⟨h,s,rfl,m⟩:=f.cells o;have E:d<w.heap.size:=block_lt_of_cell j;have G:h<w.heap.size:=block_lt_of_cell (m 0 o).1;refine Ox n hn l d w.heap.size h s a e b D f.le f.capb G E p q F r (cell_later c j) (fun i H=>?_) C;obtain ⟨t,u,v,y,z,A,B⟩:=m i H;exact ⟨cell_later c t,cell_later c u,cell_later c v,cell_later c y,cell_later c z,cell_later c A,cell_later c B⟩
def Zz (l:QL) (b:BL) (t q:Int) (i:Nat):Bool:=yG l (bk b i).rq.queue q&&Yb (bk b i) t
def wC (l:QL) (b:BL) (t q:Int):Nat->Nat
 | 0=>0
 | m+1=>if Zz l b t q m=true then m else wC l b t q m
theorem Ru {l:QL} {b:BL} {t q:Int}:∀ {n m:Nat},m<n->Zz l b t q m=true->(∀ i,m<i->i<n->Zz l b t q i=false)->wC l b t q n=m
 | 0,m,h,_,_=>by omega
 | n+1,m,h,h1,h2=>by
  rw [wC];by_cases e:m=n
  ·subst e;rw [if_pos h1]
  rw [if_neg (by rw [h2 n (by omega) (by omega)];decide)];exact Ru (by omega) h1 fun i a hn=>h2 i a (by omega)
theorem V3 {l:QL} {b:BL} {t q:Int}:∀ {n:Nat},(∀ i,i<n->Zz l b t q i=false)->wC l b t q n=0
 | 0,_=>rfl
 | n+1,h=>by
  rw [wC,if_neg (by rw [h n (by omega)];decide)];exact V3 fun i a=>h i (by omega)
theorem IE (w:World) (c n:Int) (N:Option Addr) (d O:Nat) (l:QL) (C:Option Addr) (f E:Nat) (b:BL) (h:zY w N d O l C f E b) (U:Clean l b) (bW:0<f) (t:Int) (q:Nat) (cd:q<d) :
 zC 145 #[.agg (zS c n N d O C f E),zI t,zI q] w fun e w'=>e=.returned (zI (wC l b t q f:Nat))/\Below w.heap.size w w':=by
 obtain ⟨S,a9⟩:=qA (w.heap.size);obtain ⟨J,aq⟩:=qB (((w.alloc (.cells (zS c n N d O C f E) 40)).alloc (.cells #[zI t] 3)).alloc (.cells #[zI 0] 3));obtain ⟨A,ah⟩:=qB (w.alloc (.cells (zS c n N d O C f E) 40));have bb:Below w.heap.size w A:=by rw [ah];exact zr _ _
 have ar:A.heap.size=S+1:=by rw [ah];simp [a9]
 have bn:zj A S (zI c) (zI n) (.slice N d O) (.slice C f E):=by rw [ah,<-a9];exact zj.new w _ _ _ _
 have ai:J=(A.alloc (.cells #[zI t] 3)).alloc (.cells #[zI 0] 3):=by rw [aq,ah]
 have a1:Boxed J (S+1) 3 (zI t):=by
  rw [ai,<-ar];exact (Boxed.new A 3 (zI t)).alloc _
 have aZ:Boxed J (S+1+1) 3 (zI 0):=by
  have:=Boxed.new (A.alloc (.cells #[zI t] 3)) 3 (zI 0);rw [World.size_alloc,ar] at this;rw [ai];exact this
 have aN:Below A.heap.size A J:=by rw [ai];exact (zr _ _).alloc (by simp) _
 have aM:Below w.heap.size w J:=za bb aN;have bm:J.heap.size=S+3:=by rw [ai];simp [ar]
 have aR:=bn.later aN;have bB:=yY U.tree;have bY:=h.1.len;have bT:=h.2.len;have bP:f<=12:=by have:=U.few;omega
 have bJ:=zh (Ic J N d O l (q:Int) (h.1.later aM) U.tree (by omega) (by omega));have bA:Zh (∀ i,i<f->meets (bk b i).rq (bk b i).bs=true/\0<=(bk b i).rq.queue/\(bk b i).rq.queue<d):=fun i j=>by
  have:=Uu U (yx (b:=b) (i:=i) (by omega));exact ⟨this.1,this.2.1,by omega⟩
 have bC:=zh h;have br:=zh aM;have bF:=zh aq;have bG:=zh aR;have bw:=zh a1;have bu:=zh aZ;have ay:=zh bm;obtain ⟨af,c1,c2,c3⟩:=aR.cells;rw [aq] at af c1 c2 c3;clear ah bb ar bn ai a1 aZ aN aM bm aR bB bY bT U h aq;refine (callsIn_wide (n:=4)).1 ?_;refine callsIn_of_wp_marks Tryz.func145 rfl trivial ?_ rfl;simp only [Tryz.ntmps145,List.size_toArray,List.length_cons,List.length_nil,Nat.reduceAdd,Nat.reduceSub,Array.replicate_succ,Array.replicate_zero,List.push_toArray,List.append_toArray,List.nil_append,List.cons_append]
 gi_wp2_with fail
 rw [<-bF.o];refine ⟨trivial,(callsIn_wide.2 bJ.o).mono ?_⟩;rintro e ao ⟨aQ,Y,rfl,be,aa⟩;obtain ⟨u,ba⟩:=qA (ao.heap.size);obtain ⟨z,am⟩:=qB (ao.alloc (.cells #[.slice aQ d Y] 211));have ab:Below ao.heap.size ao z:=by rw [am];exact zr _ _
 have a3:Boxed z u 211 (.slice aQ d Y):=by rw [am,<-ba];exact Boxed.new ao _ _
 have bj:z.heap.size=u+1:=by rw [am];simp [ba]
 have cb:S+3<=u:=by have:=aa.size;have:=ay.o;omega
 have bt:=zh (za (za br.o aa) ab);have bH:=zh ((bG.o.later aa).later ab);have bx:Zh (Boxed z (S+1) 3 (zI t)):=zh ((ab.block _ (by omega)).trans ((aa.block _ (by have:=ay.o;omega)).trans bw.o));have bv:Zh (Boxed z (S+1+1) 3 (zI 0)):=zh ((ab.block _ (by omega)).trans ((aa.block _ (by have:=ay.o;omega)).trans bu.o));have bD:=zh (be.later ab);have bz:=zh a3;have aW:=zh am;have Z:=zh bj;have bI:=zh (OA z C f E);clear aa ab be a3 am bj af c1 c2 c3;obtain ⟨af,c1,c2,c3⟩:=bH.o.cells;rw [aW.o] at af c1 c2 c3
 gi_wp2_with fail
 rw [<-aW.o];refine ⟨trivial,(callsIn_wide.2 bI.o).mono ?_⟩;rintro e H ⟨rfl,bg⟩;rw [Z.o];have aA:=zh bg;clear bg af c1 c2 c3;have ad:Below z.heap.size z H:=by rw [aA.o];exact zr _ _
 have bl:H.heap.size=u+2:=by rw [aA.o];simp [Z.o]
 have aY:Boxed H (u+1) 38 (.slice C f E):=by rw [aA.o,<-Z.o];exact Boxed.new z _ _
 have a2:Boxed H (S+1) 3 (zI t):=(ad.block _ (by have:=Z.o;omega)).trans bx.o;have a0:Boxed H (S+1+1) 3 (zI 0):=(ad.block _ (by have:=Z.o;omega)).trans bv.o;have a4:Boxed H u 211 (.slice aQ d Y):=(ad.block _ (by have:=Z.o;omega)).trans bz.o;have ap:=zh (za bt.o ad);have az:=zh (bD.o.later ad);have ax:=zh (bC.o.2.later ap.o);have P:=zh bl;have bp:=zh a2;have aT:=zh a0;have bq:=zh a4;have bo:=zh aY;obtain ⟨au,av,bZ,bf⟩:=az.o.cells (by omega);subst bZ;have bE:=zh bf;have cf:=az.o.le;have ce:=az.o.capb;clear ad bl a2 a0 a4 aY bf
 gi_wp2_with fail
 refine wpIn_rangeFunc_ownH (F:=Fence.wide) rfl (by omega) (gf:=190) (lb:=#[.pointer (zO (u+1) 0)]) rfl trivial (enters_of Tryz.func190 (by kernel_rfl) rfl)
  (N9 _ (by omega) (u+1) C f E b bP H ax.o bW bo.o.cell)
  belowK_t (belowK_b (Nat.le_refl _)) (Below.refl _ _) (fun _=>rfl)
  (fun W a=>(∀ x∈W,Zz l b t q x.1=false)/\Below H.heap.size H a)
  (fun aF W a=>(aF=.ret/\∃ an x,W=an++[x]/\(∀ y∈an,Zz l b t q y.1=false)/\Zz l b t q x.1=true/\a.cell? (zA (S+1+1) 0)=some (zI (x.1:Int)))/\Below w.heap.size w a)
  (OwnFrom.and (ownFrom_pure _ _) (ownFrom_below (Nat.le_refl _) (Nat.le_refl _)))
  (fun aF=>OwnFrom.and (Own.from (fun s aS B row aP hg al=>by obtain ⟨U,an,x,ag,aG,aH,bL⟩:=aP;exact ⟨U,an,x,ag,aG,aH,cell_kept bL hg al⟩) _) (ownFrom_below (Nat.le_refl _) ap.o.size))
  ⟨fun x bh=>absurd bh (List.not_mem_nil),Below.refl _ _⟩
  (fun x aC a=>∃ I,H.heap.size<=I/\ww a I (bk b x.1)/\aC={ tmps:=#[.agg (zS c n N d O C f E),zI t,zI q,.pointer (zO S 0),.pointer (zO (S+1) 0),undef,.pointer (zO (S+1+1) 0),.pointer (zO u 0),zI 0,zI (x.1:Int),.pointer (zO I 0),.tuple #[.slice (zO au av) d Y,zI 0],.pointer (zO S 2),.slice N d O,zI q,.tuple #[.slice (zO au av) d Y,zI 0],.slice (zO au av) d Y,zI 0,.pointer (zO S 3),.slice C f E,.func (.func 190) #[] #[.pointer (zO (u+1) 0)],zI (x.1:Int),.agg #[zI (bk b x.1).id,zI (bk b x.1).rq.queue,zI (bk b x.1).rq.fr,zI (bk b x.1).rq.un,zI (bk b x.1).rq.kind,.slice (bk b x.1).rq.pa (bk b x.1).rq.pn (bk b x.1).rq.pc,.slice (bk b x.1).ba (bk b x.1).bn (bk b x.1).bc],undef,undef,undef,undef,undef,undef,undef,undef,undef,undef,undef,undef],defers:=[] })
  (fun x aC s aS B row aP hg al=>by
   obtain ⟨I,bO,aJ,bR⟩:=aP;refine ⟨I,bO,(hg.block I (Array.getElem?_eq_some_iff.1 aJ).1 (fun e=>?_)).trans aJ,bR⟩;obtain ⟨_,o,bd,bU⟩:=al I e.symm;have bQ:aS.heap[I]?=_:=aJ;rw [bQ] at bd;cases bd
   cases bU)
  ?assign ?body ?done ?stop
 case assign =>
  rintro b0 W x a b5 j R;simp only [Fi]
  gi_wp2
  exact R _ _ ((KeepsOthers.alloc _ _).from _) ((Below.refl _ a).alloc j.2.size _) ⟨j.1,j.2.alloc j.2.size _⟩ ⟨a.heap.size,j.2.size,heap_alloc_new a _,rfl⟩
 case body =>
  rintro b0 W x aC a ca ⟨r,al⟩ ⟨ak,v⟩ ⟨I,b8,a5,rfl⟩ cc;obtain ⟨i,j⟩:=x;obtain ⟨bi,b1,b2⟩:=bA.o i j;obtain ⟨k,G⟩:∃ k:Nat,(bk b i).rq.queue=k:=⟨(bk b i).rq.queue.toNat,by omega⟩;have bc:k<d:=by omega
  have b9:(k:Int)<d:=by omega
  have b7:=(show Boxed a u 211 (.slice (zO au av) d Y) from (v.block _ (by have:=P.o;omega)).trans bq.o).cell;have b6:=(show Boxed a (S+1) 3 (zI t) from (v.block _ (by have:=P.o;omega)).trans bp.o).cell;have aD:=cell_later v (bE.o k bc);rw [Sa l d q k bc] at aD;have a7:Zz l b t q i=(yG l (k:Int) q&&Yb (bk b i) t):=by unfold Zz;rw [G]
  have M:=zh a7;have ae:=zh ak;have L:=zh v;have aU:=zh a5;have aB:=zh (JF a (bk b i) ((ax.o.later v).rqs i j) ((ax.o.later v).bites i j) bi t);obtain ⟨X,aL⟩:=qA (bk b i);rw [aL] at aB aU M G;obtain ⟨ch,b3,ci,cj,ck,cl,cm⟩:=aU.o.cells;rw [G] at b3;simp only [aL];have b4:=zh G;clear ak v a5 bi b1 b2 a7 aL al;cases g:yG l (k:Int) q with
  | false =>
   rw [g] at aD M
   gi_wp2
   refine ⟨trivial,?_⟩
   gi_wp2
   refine ⟨KeepsFrom.refl _ _,Below.refl _ _,fun y m=>?_,L.o⟩;rw [List.mem_append] at m;rcases m with m | m
   ·exact ae.o y m
   rw [List.mem_singleton] at m;subst m;exact M.o.trans rfl
  | true =>
   rw [g] at aD M;have a6:Value.agg #[zI X.id,zI X.rq.queue,zI X.rq.fr,zI X.rq.un,zI X.rq.kind,.slice X.rq.pa X.rq.pn X.rq.pc,.slice X.ba X.bn X.bc]=Value.agg #[zI X.id,zI k,zI X.rq.fr,zI X.rq.un,zI X.rq.kind,.slice X.rq.pa X.rq.pn X.rq.pc,.slice X.ba X.bn X.bc]:=(by rw [G]);rw [a6] at aB;clear G a6
   gi_wp2_with fail
   refine ⟨trivial,(Xz aB.o).mono ?_⟩;rintro e aX ⟨rfl,aj⟩;have Q:=(show Boxed aX (S+1+1) 3 (zI 0) from (aj.block _ (by have:=P.o;have:=L.o.size;omega)).trans ((L.o.block _ (by have:=P.o;omega)).trans aT.o));have aE:=Q.cell;have bK:=Q.frozen;have aw:=zh aj;have aV:Zh (KeepsOthers a aX):=zh ⟨aj.size,fun k o G _=>(aj.block k (Array.getElem?_eq_some_iff.1 G).1).trans G⟩;clear aj Q;cases a8:Yb X t with
   | false =>
    rw [a8] at M
    gi_wp2
    refine ⟨aV.o.from _,aw.o.mono L.o.size,fun y m=>?_,za L.o aw.o⟩;rw [List.mem_append] at m;rcases m with m | m
    ·exact ae.o y m
    rw [List.mem_singleton] at m;subst m;exact M.o.trans rfl
   | true =>
    rw [a8] at M
    gi_wp2
    refine ⟨(aV.o.trans (KeepsOthers.setCell _ _ _)).from _,⟨rfl,W,⟨i,j⟩,rfl,ae.o,M.o.trans rfl,World.cell?_setCell_same' _ _ _ (by rw [aE];rfl)⟩,?_⟩;exact (za ap.o (za L.o aw.o)).setCell (p:=(zA (S+1+1) 0)) (by show w.heap.size<=S+1+1;omega) _
 case done =>
  rintro D cg a bS rfl ⟨ak,v⟩ R;have Q:=(show Boxed a (S+1+1) 3 (zI 0) from (v.block _ (by have:=P.o;omega)).trans aT.o);have aE:=Q.cell;have bK:=Q.frozen;have ae:=zh ak;have L:=zh v;clear ak v Q
  gi_wp2
  have aK:=(KeepsOthers.setCell a (zA (S+1+1) 0) (zI 0)).same D _ R rfl;refine ⟨by simp,.inl ⟨_,_,rfl,run_takeDeferred aK,?_⟩⟩;have aO:=cell_kept (World.cell?_setCell_same' a (zA (S+1+1) 0) (zI 0) (by rw [aE];rfl)) (grownBy_putObj' _ D (.deferred none)) (fun r e=>by cases e;exact ⟨_,aK,rfl⟩);have aI:wC l b t q f=0:=V3 fun i j=>ae.o ⟨i,j⟩ (Ra (Nat.le_refl _) j (by omega));have bX:=P.o;refine ⟨zI 0,?_,by rw [aI];rfl,?_⟩
  ·simp [results,Tryz.f145,go_sem,aO]
  exact ((za ap.o L.o).setCell (p:=(zA (S+1+1) 0)) (by show w.heap.size<=S+1+1;omega) _).trans (belowK_b (w:=w) (Nat.le_refl _) _ D _ _ (by omega) aK rfl rfl)
 case stop =>
  rintro D aF W a bS ⟨k,G,rfl⟩ ⟨⟨rfl,an,x,ag,aG,aH,bV⟩,v⟩ R
  gi_wp2
  refine ⟨by simp,.inl ⟨_,_,rfl,run_takeDeferred R,?_⟩⟩;have aO:=cell_kept bV (grownBy_putObj' _ D (.deferred none)) (fun r e=>by cases e;exact ⟨_,R,rfl⟩);obtain ⟨V,rfl⟩:∃ V,k=V+1:=by
   cases k with
   | zero=>simp [dn] at ag
   | succ V=>exact ⟨V,rfl⟩
  rw [dn,dif_pos (by omega)] at ag;obtain ⟨rfl,bM⟩:=List.append_inj' ag rfl;obtain ⟨x,bh⟩:=x;have bN:f-1-V=x:=by simpa using bM
  subst bN;have aI:wC l b t q f=f-1-V:=Ru (by omega) aH fun i j hn=>aG ⟨i,hn⟩ (Ra (by omega) hn (by omega));have bX:=P.o;refine ⟨zI ((f-1-V:Nat):Int),?_,by rw [aI],?_⟩
  ·simp [results,Tryz.f145,go_sem,aO]
  exact v.trans (belowK_b (w:=w) (Nat.le_refl _) a D _ _ (by omega) R rfl rfl)
end Go.Proofs.YtckpdfkobdgjeaaGreatDoor
