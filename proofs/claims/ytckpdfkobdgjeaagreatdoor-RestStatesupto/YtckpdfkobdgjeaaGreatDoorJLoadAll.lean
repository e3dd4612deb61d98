/- Several texts in one: LoadA, LoadB, LoadC, LoadH, LoadD, LoadM, LoadE, LoadF, LoadK. -/
import Derived.Test.YtckpdfkobdgjeaaGreatDoorJReqAll
import Derived.Test.YtckpdfkobdgjeaaGreatDoorJAny
import Derived.Test.YtckpdfkobdgjeaaGreatDoorJRunsAll
import Derived.Test.YtckpdfkobdgjeaaGreatDoorJTreeAll
import Derived.Test.YtckpdfkobdgjeaaGreatDoorJAnyI
import Derived.Deep.DeepCutAuto
namespace Go.Proofs.YtckpdfkobdgjeaaGreatDoor
set_option maxRecDepth 100000
set_option maxHeartbeats 4000000
open Go.RowKit
open Go.RowKit Go.Shelf
attribute [local go_sem] Oper.semAt_some
open Go.RowKit Go.Shelf
set_option linter.unusedSectionVars false
variable [Inhabited Mk]
structure Bk where
 id:Int
 rq:Rq
 ba:Option Addr
 bn:Nat
 bc:Nat
 bs:zd
abbrev zB (x:Bk):Array Value:=#[.int .i64 x.id,.int .i64 x.rq.queue,.int .i64 x.rq.fr,.int .i64 x.rq.un,.int .i64 x.rq.kind,.slice x.rq.pa x.rq.pn x.rq.pc,.slice x.ba x.bn x.bc]
abbrev BL:=List Bk
def bk (l:BL) (i:Nat):Bk:=l.getD i ⟨0,⟨0,0,0,0,none,0,0,[]⟩,none,0,0,[]⟩
structure BksIn (w:World) (a:Option Addr) (n cap:Nat) (l:BL):Prop where
 len:n=l.length
 le:n<=cap
 capb:cap<=9223372036854775807
 cells:0<n->∃ b off,a=zO b off/\∀ i,i<n->w.cell? (zA b (off+i*7))=some (zI (bk l i).id)/\w.cell? (zA b (off+i*7+1))=some (zI (bk l i).rq.queue)/\w.cell? (zA b (off+i*7+2))=some (zI (bk l i).rq.fr)/\w.cell? (zA b (off+i*7+3))=some (zI (bk l i).rq.un)/\w.cell? (zA b (off+i*7+4))=some (zI (bk l i).rq.kind)/\w.cell? (zA b (off+i*7+5))=some (.slice (bk l i).rq.pa (bk l i).rq.pn (bk l i).rq.pc)/\w.cell? (zA b (off+i*7+6))=some (.slice (bk l i).ba (bk l i).bn (bk l i).bc)
 rqs:∀ i,i<n->zH w (bk l i).rq
 bites:∀ i,i<n->RunsIn w (bk l i).ba (bk l i).bn (bk l i).bc (bk l i).bs
 thaw:0<n->∀ b off,a=zO b off->Ed w b
theorem BksIn.lt {w:World} {a:Option Addr} {n f:Nat} {l:BL} (h:BksIn w a n f l) (d:0<n) {b i:Nat} (e:a=zO b i):b<w.heap.size:=by
 obtain ⟨j,k,c,g⟩:=h.cells d;rw [e] at c;cases c
 exact xq (g 0 d).1
theorem BksIn.later {w w':World} {a:Option Addr} {n j:Nat} {l:BL} (h:BksIn w a n j l) (c:Below w.heap.size w w'):BksIn w' a n j l:=by
 refine ⟨h.len,h.le,h.capb,fun f=>?_,fun i d=>(h.rqs i d).later c,fun i d=>(h.bites i d).later c,fun f b g e=>(h.thaw f b g e).of_eq (c.block b (h.lt f e))⟩;obtain ⟨b,g,o,p⟩:=h.cells f;refine ⟨b,g,o,fun i d=>?_⟩;obtain ⟨k,c1,c2,c3,c4,c5,m⟩:=p i d;exact ⟨cell_later c k,cell_later c c1,cell_later c c2,cell_later c c3,cell_later c c4,cell_later c c5,cell_later c m⟩
theorem Uo (w:World) (x:Bk):∀ X:World,Below (w.alloc (.cells #[zI x.id,zI x.rq.queue,zI x.rq.fr,zI x.rq.un,zI x.rq.kind,.slice x.rq.pa x.rq.pn x.rq.pc,.slice x.ba x.bn x.bc] 60)).heap.size (w.alloc (.cells #[zI x.id,zI x.rq.queue,zI x.rq.fr,zI x.rq.un,zI x.rq.kind,.slice x.rq.pa x.rq.pn x.rq.pc,.slice x.ba x.bn x.bc] 60)) X->X.cell? (zA w.heap.size 0)=some (zI x.id)/\X.cell? (zA w.heap.size 1)=some (zI x.rq.queue)/\X.cell? (zA w.heap.size 2)=some (zI x.rq.fr)/\X.cell? (zA w.heap.size 3)=some (zI x.rq.un)/\X.cell? (zA w.heap.size 4)=some (zI x.rq.kind)/\X.cell? (zA w.heap.size 5)=some (.slice x.rq.pa x.rq.pn x.rq.pc)/\X.cell? (zA w.heap.size 6)=some (.slice x.ba x.bn x.bc) :=
 fun X a=>⟨cell_later a (by go_simp),cell_later a (by go_simp),cell_later a (by go_simp),cell_later a (by go_simp),cell_later a (by go_simp),cell_later a (by go_simp),cell_later a (by go_simp)⟩
def ZZ (l:QL) (x:Bk):Int:=if yI l x.rq=0 then (if meets x.rq x.bs=true then 0 else 1) else yI l x.rq
theorem Qw (w:World) (a:Option Addr) (n j:Nat) (l:QL) (z:QsIn w a n j l) (x:Bk) (r:zH w x.rq) (y:RunsIn w x.ba x.bn x.bc x.bs) :
 zC 129 #[.slice a n j,.agg #[zI x.id,zI x.rq.queue,zI x.rq.fr,zI x.rq.un,zI x.rq.kind,.slice x.rq.pa x.rq.pn x.rq.pc,.slice x.ba x.bn x.bc]] w fun e w'=>e=.returned (zI (ZZ l x))/\Below w.heap.size w w':=by
 have g:=zh ((Below.refl w.heap.size w).alloc (Nat.le_refl _) (.cells (zB x) 60));have B:=zh (Uo w x);have c:=WD _ a n j l (z.later g.o) x.rq (r.later g.o);have t:=zh fun X (v:zL w X)=>Kc X x.rq (r.later v) x.ba x.bn x.bc x.bs (y.later v);clear z r y;by_cases b:yI l x.rq=0
 ·rw [b] at c;have i:=zh c;have f:ZZ l x=if meets x.rq x.bs=true then 0 else 1:=if_pos b;rw [f];clear b f c;obtain ⟨m,q⟩:=qA (meets x.rq x.bs);rw [q] at t;rw [q];clear q;go_enter Tryz.func129,Tryz.ntmps129;go_wp2_with fail
  refine i.o.mono ?_;rintro e s ⟨rfl,d⟩;obtain ⟨C,c1,c2,c3,c4,c5,D⟩:=B.o s d;have h:=zh (za g.o d);clear d;cases m
  all_goals
   go_wp2_with fail
   refine (t.o s h.o).mono ?_;rintro e F ⟨rfl,u⟩;have A:=zh (za h.o u);clear u;go_wp2;go_ret;exact ⟨rfl,A.o⟩
 ·have f:ZZ l x=yI l x.rq:=if_neg b;rw [f];obtain ⟨k,p⟩:=qA (yI l x.rq);rw [p] at c b;rw [p];have E:(k != 0)=true:=by simp [b]
  have i:=zh c;clear f c b p;go_enter Tryz.func129,Tryz.ntmps129;go_wp2_with fail
  refine i.o.mono ?_;rintro e s ⟨rfl,d⟩;have h:=zh (za g.o d);clear d;go_wp2;go_ret;exact ⟨rfl,h.o⟩
theorem MJ (w:World) (a:Option Addr) (n j:Nat) (l:QL) (f:QsIn w a n j l) (x:Bk) (A:zH w x.rq) (b:RunsIn w x.ba x.bn x.bc x.bs) (q p:Nat) (e:Int) (z:w.cell? (zA q 0)=some (.slice a n j)) (y:w.cell? (zA p 0)=some (zI e)) :
 zC 128 #[.agg #[zI x.id,zI x.rq.queue,zI x.rq.fr,zI x.rq.un,zI x.rq.kind,.slice x.rq.pa x.rq.pn x.rq.pc,.slice x.ba x.bn x.bc],.pointer (zO q 0),.pointer (zO p 0)] w fun r w'=>r=.returned (.bool (decide (ZZ l x=e)))/\Below w.heap.size w w':=by
 have m:=zh ((Below.refl w.heap.size w).alloc (Nat.le_refl _) (.cells (zB x) 60));have F:=zh (Uo w x);have u:=zh fun X (t:zL w X)=>Qw X a n j l (f.later t) x (A.later t) (b.later t);have E:=zh z;have D:=zh y;obtain ⟨C,s⟩:=qA (ZZ l x);rw [s] at u;rw [s];clear f A b z y s;go_enter Tryz.func128,Tryz.ntmps128;go_wp2_with fail
 refine zV ((Tryz.f128.body.bind fun c=>yi c 1).getD #[]) (by kernel_rfl) [zl (.slice a n j),zl (.agg (zB x)),zl (zI C),zl (zI e),zl (.bool (decide (C=e))),zl (.bool (decide (C=e)))] [] (by kernel_rfl) (by kernel_rfl) (by kernel_rfl) ?hg ?hstep ?hfin
 case hg =>
  intro g hg v w h;cases hg
 case hstep =>
  refine zc.cons 1 rfl ?_ ?_
  ·intro T w' b f i;have k:T.getD 1 undef=.pointer (zO q 0):=f 1;have G:=cell_later (za m.o b) E.o;exact zs (by go_simp) rfl
  refine zc.cons 2 rfl ?_ ?_
  ·intro T w' b f i;have k:T.getD 3 undef=.pointer (zO w.heap.size 0):=f 3;obtain ⟨N,c1,c2,c3,c4,c5,O⟩:=F.o w' b;exact zs (by go_simp) rfl
  refine zc.cons 3 rfl ?_ ?_
  ·intro T w' b f i;have k:T.getD 5 undef=_:=i 0 5;have J:T.getD 6 undef=_:=i 1 6;refine Or.inr ⟨129,#[.slice a n j,.agg (zB x)],by go_simp,?_⟩;refine (u.o w' (za m.o b)).mono ?_;rintro e Q ⟨rfl,L⟩;exact ⟨_,rfl,rfl,L⟩
  refine zc.cons 4 rfl ?_ ?_
  ·intro T w' b f i;have k:T.getD 2 undef=.pointer (zO p 0):=f 2;have G:=cell_later (za m.o b) D.o;exact zs (by go_simp) rfl
  refine zc.cons 5 rfl ?_ ?_
  ·intro T w' b f i;have k:T.getD 7 undef=_:=i 2 7;have J:T.getD 8 undef=_:=i 3 8;have P:(C==e)=decide (C=e):=(by rw [Bool.eq_iff_iff];simp);exact zs (by go_simp) rfl
  refine zc.cons 6 rfl ?_ ?_
  ·intro T w' b f i;have k:T.getD 9 undef=_:=i 4 9;exact zs (by go_simp) rfl
  exact trivial
 case hfin =>
  intro T w' b M f i;have H:T.getD 4 undef=.bool (decide (C=e)):=i 5 4;rw [yb [true,true,true,true,false,false,false,false,false,false] (by kernel_rfl) M @f];obtain ⟨us,B⟩:∃ us:Nat->Value,(fun d=>T.getD d undef)=us:=⟨_,rfl⟩;rw [B];have I:us 4=.bool (decide (C=e)):=by rw [<-B];exact H
  simp only [xj,I];go_wp2;go_ret;exact ⟨rfl,za m.o b⟩
theorem OH (d:Nat) (D:Array Value) (p:Bk->Bool) (R:∀ (args:Array Value) (w:World),(callFunc d args).run Tryz.prog w=.ok (.enter d args) w) (w:World) (a:Option Addr) (n C:Nat) (l:BL) (h:BksIn w a n C l)
 (H:∀ w',Below w.heap.size w w'->∀ x:Bk,zH w' x.rq->RunsIn w' x.ba x.bn x.bc x.bs->zC d (#[.agg #[zI x.id,zI x.rq.queue,zI x.rq.fr,zI x.rq.un,zI x.rq.kind,.slice x.rq.pa x.rq.pn x.rq.pc,.slice x.ba x.bn x.bc]]++D) w' fun e M=>e=.returned (.bool (!p x))/\Below w'.heap.size w' M) :
 zC 83 #[.slice a n C,.func (.func d) #[] D] w fun e w'=>∃ r:Int,e=.returned (zI r)/\(decide (0<=r))=(!zQ (fun i=>p (bk l i)) n)/\Below w.heap.size w w':=by
 have O:=zh h.len;have S:=h.le;have P:=h.capb;have J:=zh h.cells;have L:=zh H;have z:=zh h;clear H h;go_enter Tryz.func83,Tryz.ntmps83;go_wp2;go_loopw [5,8] (fun _ v wr=>∃ k:Nat,v=zI k/\k<=n/\zQ (fun i=>p (bk l i)) k=true/\zL w wr) (fun _ v _=>n-(intOf v).toNat)
 case atStart=>exact ⟨0,rfl,by omega,rfl,Below.refl _ _⟩
 case round =>
  obtain ⟨j,rfl,Q,E,F⟩:=hrel;have y:=zh E;have c:=zh F;clear E F;by_cases m:j<n
  ·have U:(j:Int)<n:=(by omega);obtain ⟨b,V,rfl,G⟩:=J.o (by omega);obtain ⟨s,c1,c2,c3,c4,c5,t⟩:=G j m
   replace s:=cell_later c.o s
   replace c1:=cell_later c.o c1
   replace c2:=cell_later c.o c2
   replace c3:=cell_later c.o c3
   replace c4:=cell_later c.o c4
   replace c5:=cell_later c.o c5
   replace t:=cell_later c.o t
   clear G;have q:=L.o wr c.o (bk l j) ((z.o.rqs j m).later c.o) ((z.o.bites j m).later c.o);obtain ⟨X,u⟩:=qA (bk l j);rw [u] at q s c1 c2 c3 c4 c5 t;have B:=zh u;have A:=zh q;clear u q;cases g:p X with
   | false =>
    go_wp2_with fail
    refine A.o.mono ?_;rintro e N ⟨rfl,f⟩;rw [g];go_wp2;go_ret;exact ⟨_,rfl,by rw [yO (p:=fun i=>p (bk l i)) (k:=j) (by rw [B.o];exact g) n m];simp,za c.o f⟩
   | true =>
    go_wp2_with fail
    refine A.o.mono ?_;rintro e N ⟨rfl,f⟩;have I:=zh f;clear f;rw [g];go_wp2;go_roundw
    case rel=>exact ⟨j+1,by go_num,by omega,by rw [zQ,y.o,B.o,g];rfl,za c.o I.o⟩
    case measure=>simp [intOf];omega
  obtain rfl:j=n:=by omega
  go_wp2;go_ret;exact ⟨_,rfl,by rw [y.o];rfl,c.o⟩
theorem WE (b:Nat) (d:Array Value) (p:Bk->Bool) (q:∀ (args:Array Value) (w:World),(callFunc b args).run Tryz.prog w=.ok (.enter b args) w) (w:World) (a:Option Addr) (n c:Nat) (l:BL) (h:BksIn w a n c l)
 (f:∀ w',Below w.heap.size w w'->∀ x:Bk,zH w' x.rq->RunsIn w' x.ba x.bn x.bc x.bs->zC b (#[.agg #[zI x.id,zI x.rq.queue,zI x.rq.fr,zI x.rq.un,zI x.rq.kind,.slice x.rq.pa x.rq.pn x.rq.pc,.slice x.ba x.bn x.bc]]++d) w' fun e s=>e=.returned (.bool (!p x))/\Below w'.heap.size w' s) :
 zC 48 #[.slice a n c,.func (.func b) #[] d] w fun e w'=>e=.returned (.bool (!zQ (fun i=>p (bk l i)) n))/\Below w.heap.size w w':=by
 have j:=zh f;clear f;go_enter Tryz.func48,Tryz.ntmps48;go_wp2_with fail
 refine (OH b d p q w a n c l h j.o).mono ?_;rintro e t ⟨r,rfl,g,m⟩;have k:=zh g;clear g;go_wp2;go_ret;exact ⟨zm k.o,m⟩
def Uc (l:QL) (b:BL) (e:Int):Bool:=zQ (fun i=>!decide (ZZ l (bk b i)=e)) b.length
def ers (k:Nat):Int:=[7,2,6,3,1].getD k 0
def Z4 (l:QL) (b:BL):Nat->Nat->Int
 | _,0=>0
 | k,m+1=>if Uc l b (ers k)=true then Z4 l b (k+1) m else ers k
def wS (l:QL) (b:BL):Int:=if z9 l=0 then (if b.length<=12 then Z4 l b 0 5 else 2) else z9 l
theorem S6 (w:World) (a:Option Addr) (n d:Nat) (l:QL) (C:QsIn w a n d l) (U:Option Addr) (A V:Nat) (b:BL) (f:BksIn w U A V b) :
 zC 80 #[.slice a n d,.slice U A V] w fun e w'=>e=.returned (zI (wS l b))/\Below w.heap.size w w':=by
 have E:=zh ((Below.refl w.heap.size w).alloc (Nat.le_refl _) (.cells #[.slice a n d] 37));have p:=wF _ a n d l (C.later E.o);have H:(w.alloc (.cells #[.slice a n d] 37)).cell? (zA w.heap.size 0)=some (.slice a n d):=by go_simp
 have au:=zh H;have aG:=f.le;have aF:=f.capb;have F:=zh f.len;by_cases g:z9 l=0
 ·have D:wS l b=if b.length<=12 then Z4 l b 0 5 else 2:=if_pos g;rw [D];rw [g] at p;have G:=zh p;clear D p g;by_cases I:b.length<=12
  ·rw [if_pos I];have az:¬(12:Int)<A:=(by have:=F.o;omega);have ay:=zh fun X (hX:zL w X) (cl:X.cell? ⟨w.heap.size,0,none⟩=some (.slice a n d)) (Be:Nat) (e:Int) (B:X.cell? ⟨Be,0,none⟩=some (zI e)) =>
    WE 128 #[.pointer (zO w.heap.size 0),.pointer (zO Be 0)] (fun x=>!decide (ZZ l x=e)) (fun args w=>by go_simp) X U A V b (f.later hX)
     (fun w' ag x aD aA=>(MJ w' a n d l (C.later (za hX ag)) x aD aA w.heap.size Be e (cell_later ag cl) (cell_later ag B)).mono fun r aJ q=>⟨by rw [q.1];simp,q.2⟩)
   obtain ⟨h,Z⟩:=qA (Z4 l b 0 5);rw [Z];have al:=zh Z;clear C f I Z H;go_enter Tryz.func80,Tryz.ntmps80;go_wp2_with fail
   refine G.o.mono ?_;rintro e t ⟨rfl,c⟩;have u:=zh (za E.o c);have av:=zh (cell_later c au.o);clear c;go_wp2_with fail
   obtain ⟨y,J⟩:=qB (t.alloc (.cells #[zI 7,zI 2,zI 6,zI 3,zI 1] 28));have ab:zL t y:=(by rw [J];exact zr _ _);have ak:Zh (∀ k,k<5->y.cell? (zA t.heap.size k)=some (zI (ers k))):=by
    intro k af;rw [J]
    match k,af with
    | 0,_=>go_simp;rfl
    | 1,_=>go_simp;rfl
    | 2,_=>go_simp;rfl
    | 3,_=>go_simp;rfl
    | 4,_=>go_simp;rfl
    | k+5,af=>omega
   rw [<-J];have P:=zh (za u.o ab);have aw:=zh (cell_later ab av.o);obtain ⟨ai,aa⟩:=qA (t.heap.size);rw [aa] at ak;rw [aa];clear ab J aa;go_loopw [7,18] (fun _ ah wr=>∃ k:Nat,ah=zI k/\k<=5/\Z4 l b 0 5=Z4 l b k (5-k)/\zL y wr) (fun _ ah _=>5-(intOf ah).toNat)
   case atStart=>exact ⟨0,rfl,by omega,rfl,Below.refl _ _⟩
   obtain ⟨k,rfl,af,aq,ap⟩:=hrel;have Q:=zh aq;have j:=zh ap;clear aq ap;by_cases aB:k<5
   ·have aH:(k:Int)<5:=(by omega);have W:=cell_later j.o (ak.o k aB);obtain ⟨e,ad⟩:=qA (ers k);rw [ad] at W;have ax:=zh ad;clear ad;obtain ⟨z,L⟩:=qB (wr.alloc (.cells #[zI e] 28));have M:zL wr z:=(by rw [L];exact zr _ _);have B:z.cell? (zA wr.heap.size 0)=some (zI e):=(by rw [L];go_simp);have v:=ay.o z (za (za P.o j.o) M) (cell_later M (cell_later j.o aw.o)) wr.heap.size e B;rw [F.o,show zQ (fun i=>!decide (ZZ l (bk b i)=e)) b.length=Uc l b e from rfl] at v;have R:Zh (Z4 l b k (5-k)=if Uc l b e=true then Z4 l b (k+1) (5-(k+1)) else e):=by
     show Z4 l b k (5-k)=_;obtain ⟨m,aC⟩:∃ m,5-k=m+1:=⟨5-k-1,by omega⟩;rw [aC,Z4,ax.o,show 5-(k+1)=m from by omega]
    obtain ⟨S,ao⟩:=qA (Uc l b e);rw [ao] at v R;have aj:=zh M;have an:=zh L;have ar:=zh B;rw [<-F.o] at v;have am:=zh v;clear ao v M L B;cases S with
    | false =>
     go_wp2_with fail
     rw [<-an.o];refine am.o.mono ?_;rintro r aE ⟨rfl,s⟩;have O:=zh (za (za (za P.o j.o) aj.o) s);have c4:=cell_later s ar.o;clear s W;have N:Zh (e=h):=(by show e=h;rw [<-al.o,Q.o,R.o];rfl);go_wp2;go_ret;rw [<-N.o];exact ⟨rfl,O.o⟩
    | true =>
     go_wp2_with fail
     rw [<-an.o];refine am.o.mono ?_;rintro r aE ⟨rfl,s⟩;have O:=zh (za (za j.o aj.o) s);clear s W;go_wp2;go_roundw
     case rel=>exact ⟨k+1,by go_num,by omega,by rw [Q.o,R.o];rfl,O.o⟩
     case measure=>simp [intOf];omega
   obtain rfl:k=5:=(by omega);have N:Zh (0=h):=(by show 0=h;rw [<-al.o,Q.o];rfl);go_wp2;go_ret;rw [<-N.o];exact ⟨rfl,za P.o j.o⟩
  rw [if_neg I];have az:(12:Int)<A:=by have:=F.o;omega
  clear C f I H;go_enter Tryz.func80,Tryz.ntmps80;go_wp2_with fail
  refine G.o.mono ?_;rintro e t ⟨rfl,c⟩;have u:=zh (za E.o c);clear c;go_wp2;go_ret;exact ⟨rfl,u.o⟩
 ·have D:wS l b=z9 l:=if_neg g;rw [D];obtain ⟨Y,ae⟩:=qA (z9 l);rw [ae] at p g;rw [ae];have aI:(Y != 0)=true:=by simp [g]
  have G:=zh p;clear D p g ae C f H;go_enter Tryz.func80,Tryz.ntmps80;go_wp2_with fail
  refine G.o.mono ?_;rintro e t ⟨rfl,c⟩;have u:=zh (za E.o c);clear c;go_wp2;go_ret;exact ⟨rfl,u.o⟩
def IL (r:Rq) (b:zd) (i:Nat):Int:=rN r.ps (zp b i).toNat
def wh (f:zd) (x:Bk):Nat->zd
 | 0=>f
 | k+1=>(yV (wh f x k) (rN x.bs k) (rN x.bs k+lenOf x.rq x.bs k) (IL x.rq x.bs k)).1
theorem YC {r:Rq} {b:zd} (h:meets r b=true) {k:Nat} (i:k<b.length):0<=zp b k/\zp b k<r.ps.length/\0<=rN b k/\rN b k+lenOf r b k<=48/\1<=lenOf r b k/\lenOf r b k<=24/\1<=IL r b k/\IL r b k<=50:=by
 obtain ⟨a,m,g⟩:=yk.1 h;obtain ⟨c,f,_⟩:=wm (g k i);have j:=wR f;have l:=Zi c;have d:=Xm a c;have e:=yh a (k:=(zp b k).toNat) (by omega);have n:=xA a;exact ⟨by omega,by omega,by omega,by omega,d.1,d.2,e.2.2.1,e.2.2.2⟩
theorem RB {r:Rq} {b:zd} (h:meets r b=true):0<b.length:=by
 obtain ⟨a,c,d⟩:=yk.1 h;have:=YM a;omega
theorem Ho (w:World) (a:Option Addr) (n F:Nat) (f:zd) (aj:RunsIn w a n F f) (x:Bk) (q:zH w x.rq) (l:RunsIn w x.ba x.bn x.bc x.bs) (s:meets x.rq x.bs=true) :
 zC 82 #[.slice a n F,.agg #[zI x.id,zI x.rq.queue,zI x.rq.fr,zI x.rq.un,zI x.rq.kind,.slice x.rq.pa x.rq.pn x.rq.pc,.slice x.ba x.bn x.bc]] w fun e w'=>∃ d m j,e=.returned (.slice d m j)/\RunsIn w' d m j (wh f x x.bs.length)/\Below w.heap.size w w'/\∀ b p,d=zO b p->w.heap.size<=b:=by
 have av:=zh l.len;have az:=zh q.len;have aJ:=l.le;have aI:=l.capb;have aO:=RunsIn.le q;have aN:=RunsIn.capb q;have O:0<x.bn:=by rw [l.len];exact RB s
 have an:0<x.rq.pn:=by have:=YC s (k:=0) (RB s);have:=q.len;omega
 obtain ⟨C,aB,I,J⟩:=l.cells O;obtain ⟨S,aD,Q,R⟩:=RunsIn.cells q an;have V:=zh J;have W:=zh R;have au:=zh fun k (ak:k<x.bn)=>YC s (k:=k) (by rw [<-l.len];exact ak);have aw:=zh aj;have g:=zh ((Below.refl w.heap.size w).alloc (Nat.le_refl _) (.cells #[zI x.id,zI x.rq.queue,zI x.rq.fr,zI x.rq.un,zI x.rq.kind,.slice x.rq.pa x.rq.pn x.rq.pc,.slice x.ba x.bn x.bc] 60));have y:=zh (Uo w x);have aG:C<w.heap.size:=block_lt_of_cell (J 0 O).1;have aL:S<w.heap.size:=block_lt_of_cell (R 0 an).1;rw [I,Q] at y g;rw [I,Q];rw [<-av.o];clear aj q l s J R I Q;go_enter Tryz.func82,Tryz.ntmps82;go_wp2_with fail
 obtain ⟨W0,A⟩:=qA (w.alloc (.cells #[zI x.id,zI x.rq.queue,zI x.rq.fr,zI x.rq.un,zI x.rq.kind,.slice (some ⟨S,aD,none⟩) x.rq.pn x.rq.pc,.slice (some ⟨C,aB,none⟩) x.bn x.bc] 60));rw [A] at y g;rw [A];obtain ⟨D,c1,c2,c3,c4,c5,E⟩:=y.o W0 (Below.refl _ _);have aP:w.heap.size+1<=W0.heap.size:=by rw [<-A];simp
 clear A;go_wp2_with fail
 go_loopw [0,11] (fun v U wr=>∃ (k:Nat) (d:Option Addr) (m j:Nat),U=zI k/\k<=x.bn/\v=.slice d m j/\RunsIn wr d m j (wh f x k)/\(0<k->∀ b p,d=zO b p->w.heap.size<=b)/\Below W0.heap.size W0 wr) (fun _ U _=>x.bn-(intOf U).toNat)
 case atStart=>exact ⟨0,a,n,F,rfl,by omega,rfl,aw.o.later g.o,fun h=>by omega,Below.refl _ _⟩
 case round =>
  clear D c1 c2 c3 c4 c5 E;obtain ⟨k,d,m,j,rfl,ak,rfl,af,al,N⟩:=hrel;have X:=zh af;have ax:=zh al;have i:=zh N;have aQ:W0.heap.size<=wr.heap.size:=N.size;clear af al N;obtain ⟨D,c1,c2,c3,c4,c5,E⟩:=y.o wr i.o;by_cases P:k<x.bn
  ·have aK:(k:Int)<x.bn:=(by omega);have r:=au.o k P;obtain ⟨c,z⟩:∃ c:Nat,zp x.bs k=c:=⟨(zp x.bs k).toNat,by omega⟩;have ae:c<x.rq.pn:=(by have:=az.o;omega);have aF:(c:Int)<x.rq.pn:=(by omega);have Z:=cell_later (za g.o i.o) (V.o k P).1;have aa:=cell_later (za g.o i.o) (V.o k P).2;have ap:=cell_later (za g.o i.o) (W.o c ae).1;have aq:=cell_later (za g.o i.o) (W.o c ae).2;have G:lenOf x.rq x.bs k=zp x.rq.ps c:=(by rw [lenOf,z,Int.toNat_natCast]);have H:IL x.rq x.bs k=rN x.rq.ps c:=(by rw [IL,z,Int.toNat_natCast]);have u:Zh (wh f x (k+1)=(yV (wh f x k) (rN x.bs k) (rN x.bs k+zp x.rq.ps c) (rN x.rq.ps c)).1):=(by show wh f x (k+1)=_;rw [wh,G,H]);rw [G,H] at r;rw [z] at Z r;obtain ⟨L,ab⟩:=qA (zp x.rq.ps c);obtain ⟨M,ad⟩:=qA (rN x.rq.ps c);obtain ⟨t,ao⟩:=qA (rN x.bs k);rw [ab] at r u ap;rw [ad] at r u aq;rw [ao] at r u aa;clear ab ad ao G H z;have aM:S<wr.heap.size:=(by omega);have aH:C<wr.heap.size:=(by omega);have aR:w.heap.size<wr.heap.size:=(by omega);go_wp2_with fail
   have B:Below wr.heap.size wr ((wr.alloc (.cells #[zI c,zI t] 62)).alloc (.cells #[zI L,zI M] 64)):=((Below.refl _ wr).alloc (Nat.le_refl _) _).alloc (by simp) _;refine (OC _ d m j (wh f x k) t (t+L) M (X.o.later B)).mono ?_;rintro e aS ⟨Y,aC,aE,rfl,ag,ah,am⟩;have aA:=zh ag;have ai:=za B ah;have ar:=zh (za i.o ai);have ay:Zh (∀ b p,Y=zO b p->w.heap.size<=b):=fun b p e=>by have:=am b p e;have:=B.size;omega
   clear ag ah am B ai D c1 c2 c3 c4 c5 E Z aa ap aq;go_wp2;go_roundw
   case rel=>exact ⟨k+1,Y,aC,aE,by go_num,by omega,rfl,by rw [u.o];exact aA.o,fun _=>ay.o,ar.o⟩
   case measure=>simp [intOf];omega
  obtain rfl:k=x.bn:=by omega
  go_wp2;go_ret;exact ⟨_,_,_,rfl,X.o,za g.o i.o,ax.o O⟩
abbrev QN (N:Nat):={ x:Int // 0<=x/\x<N }
theorem Fu (F:Fence) (n:Nat) (aa:F.fn 130) (ao:F.round=none) (hn:1<=n) (Q z j y b h c D:Nat) (l:QL) (q:Int) (I:Right l) (H:c=l.length) (an:q<c) (g C:List (QN c)->World->Prop)
 (ah:∀ a x d,g a d->a.length<5->YieldAt F (n-1) Tryz.prog Q #[zI x.1] d fun e f =>
  (e=.returned (.bool true)/\g (a++[x]) f/\YO y j d f)\/(e=.returned (.bool false)/\C (a++[x]) f))
 (d:World) (aq:d.cell? (zA z 0)=some (zI q)) (ab:Boxed d j 37 (.slice (zO b h) c D)) (ai:b<y)
 (M:∀ i,i<c->d.cell? (zA b (h+i*3+1))=some (zI (qu l i).parent)) (Z:g [] d) :
 CallsIn F n Tryz.prog 130 #[.func (.yield Q) #[] #[],.pointer (zO z 0),.pointer (zO j 0)] d fun e f=>(∃ v,e=.returned v) /\
  ((∃ R:List (QN c),R.map (·.1)=zK l q/\g R f)\/(∃ a:List (QN c),True/\C a f)):=by
 have B:=zh I;have A:=zh H;have V:=zh M;clear I H M;refine callsIn_of_wp Tryz.func130 rfl aa ?_ ao;simp only [Tryz.ntmps130,List.size_toArray,List.length_cons,List.length_nil,Nat.reduceAdd,Nat.reduceSub,Array.replicate_succ,Array.replicate_zero,List.push_toArray,List.append_toArray,List.nil_append,List.cons_append]
 gi_wp2
 gi_loopw [4] (fun p wr=>∃ (a:List (QN c)) (x:Int),p=zI x/\x<c/\a.map (·.1)++zK l x=zK l q/\Boxed wr j 37 (.slice (zO b h) c D)/\Below y d wr/\g a wr)
  (fun p _=>(intOf p+1).toNat)
 case atStart=>exact ⟨[],q,rfl,an,rfl,ab,Below.refl _ _,Z⟩
 case round =>
  obtain ⟨a,x,rfl,ar,N,aj,J,G⟩:=hrel;have s:=zh N;have S:=zh J;clear N J;by_cases r:0<=x
  ·obtain ⟨P,rfl⟩:=Int.eq_ofNat_of_zero_le r;have af:P<c:=(by omega);have t:(P:Int)<c:=(by omega);have am:=B.o.par P (by have:=A.o;omega);have k:=zh (Y8 B.o (q:=(P:Int)) (by omega) (by have:=A.o;omega));rw [Int.toNat_natCast] at k;have ak:a.length<5:=by
    have E:=WY l q;rw [<-s.o,k.o] at E;simp at E;omega
   obtain ⟨m,w⟩:=qA ((qu l P).parent);have X:=zh w;rw [w] at am k;clear w;obtain ⟨fn,tmps,assign,body,au,ag⟩:=ah a ⟨(P:Int),r,t⟩ wr G ak
   gi_wp2
   refine ag.mono ?_;rintro e Y (⟨rfl,ad,O⟩ | ⟨rfl,ae⟩)
   ·have L:=O.2 _ aj;have u:=S.o.trans O.1;have c1:Y.cell? (zA b (h+P*3+1))=some (zI m):=(u.cell (p:=(zA b (h+P*3+1))) ai).trans (by rw [V.o P af,X.o]);have ap:=L.cell;have U:=zh u;clear u
    gi_wp2
    go_roundw
    case rel=>exact ⟨a++[⟨(P:Int),r,t⟩],m,rfl,by omega,by rw [<-s.o,k.o];simp,L,U.o,ad⟩
    case measure=>simp [intOf];omega
   gi_wp2
   refine bodyPost_ret (results_none rfl _ _ _) rfl ?_;exact ⟨⟨_,rfl⟩,.inr ⟨a++[⟨(P:Int),r,t⟩],trivial,ae⟩⟩
  have al:=WZ (l:=l) (q:=x) (by omega);have W:Zh (a.map (·.1)=zK l q):=by have:=s.o;rw [al,List.append_nil] at this;exact this
  gi_wp2
  go_end0
  exact ⟨⟨_,rfl⟩,.inl ⟨a,W.o,G⟩⟩
theorem Py (F:Fence) (n:Nat) (u:F.fn 130) (E:F.round=none) (hn:1<=n) (d c e b f a h:Nat) (l:QL) (q:Int) (y:Right l) (v:a=l.length) (D:q<a) (w:World)
 (k:Boxed w d 3 (zI q)) (j:Boxed w c 37 (.slice (zO b f) a h)) (C:e<=w.heap.size) (m:b<e)
 (A:∀ i,i<a->w.cell? (zA b (f+i*3+1))=some (zI (qu l i).parent)) :
 SeqStopsK F n Tryz.prog 130 #[.pointer (zO d 0),.pointer (zO c 0)] (fun x:QN a=>#[Value.int .i64 x.1]) (YO e c) (fun H=>H.map (·.1)=zK l q) (fun _=>True) 5 w:=fun G o r s g _ _ z t =>
 Fu F n u E hn G d c e b f a h l q y v D o r z s ((g.cell (p:=(zA d 0)) k.lt).trans k.cell) ((g.block c j.lt).trans j) m
  (fun i B=>(g.cell (p:=(zA b (f+i*3+1))) (Nat.lt_of_lt_of_le m C)).trans (A i B)) t
theorem RunsIn.grown {X d:World} {row:Option Nat} {a:Option Addr} {n f:Nat} {l:zd} (h:RunsIn X a n f l) (hg:X.grownBy d row) (q:∀ r,row=some r->∃ o:Obj,X.heap[r]?=some o/\o.isCells=false):RunsIn d a n f l:=by
 refine h.of_away fun c b t i=>?_;obtain ⟨s,u,j,p⟩:=h.cells c;rw [i] at j;cases j
 refine hg.block b (h.lt c i) fun e=>?_;obtain ⟨o,k,m⟩:=q b e.symm;have g:=(p 0 c).1;simp only [World.cell?,k] at g;cases o with
 | cells=>cases m
 | _=>simp at g
theorem RunsIn.blocks {w w':World} {a:Option Addr} {n c:Nat} {l:zd} (h:RunsIn w a n c l) (d:∀ b e,a=zO b e->w'.heap[b]?=w.heap[b]?):RunsIn w' a n c l:=h.of_away fun _=>d
structure Tk (W1 W:World) (G n:Nat) (T:Nat->zd):Prop where
 os:W.os=W1.os
 tape:W.tape=W1.tape
 output:W.output=W1.output
 size:W1.heap.size<=W.heap.size
 block:∀ k,k<W1.heap.size->k≠G->W.heap[k]?=W1.heap[k]?
 row:∃ v,W.rowIs G 25 n v/\∀ q,q<n->∃ a m c,v q=.slice a m c/\RunsIn W a m c (T q)/\∀ b off,a=zO b off->b≠G
theorem Tk.own {j:Type} {f:World} {d n B:Nat} {T:j->Nat->zd} (z:f.heap.size<=B) (A:d<f.heap.size):OwnFrom B (fun (s:j) l=>Tk f l d n (T s)):=by
 intro s X y row b hg g;obtain ⟨v,i,w⟩:=b.row;refine ⟨hg.os.trans b.os,hg.tape.trans b.tape,hg.output.trans b.output,Nat.le_trans b.size hg.size,
  fun k h u=>(hg.block k (Nat.lt_of_lt_of_le h b.size) (fun e=>by have:=(g k e.symm).1;omega)).trans (b.block k h u),v,
  i.of_block (hg.block d i.lt (fun e=>by have:=(g d e.symm).1;omega)),fun q x=>?_⟩
 obtain ⟨a,m,c,o,p,t⟩:=w q x;exact ⟨a,m,c,o,p.grown hg (fun r e=>(g r e).2),t⟩
theorem Tk.box {c b:World} {a n:Nat} {T:Nat->zd} (h:Tk c b a n T) {B t:Nat} {v:Value} (d:Boxed c B t v) (e:B≠a):Boxed b B t v:=(h.block B d.lt e).trans d
theorem Tk.later {g e f:World} {d n:Nat} {T:Nat->zd} (h:Tk g e d n T) (b:Below e.heap.size e f):Tk g f d n T:=by
 obtain ⟨v,i,s⟩:=h.row;refine ⟨b.os.trans h.os,b.tape.trans h.tape,b.output.trans h.output,Nat.le_trans h.size b.size,fun k p r=>(b.block k (by have:=h.size;omega)).trans (h.block k p r),v,i.of_block (b.block d i.lt),fun q t=>?_⟩;obtain ⟨a,m,c,j,l,o⟩:=s q t;exact ⟨a,m,c,j,l.later b,o⟩
theorem Tk.hit {l f:World} {d n:Nat} {T:Nat->zd} (h:Tk l f d n T) (j:Nat) {a:Option Addr} {m c:Nat} {g:zd} (w:RunsIn f a m c g) (p:∀ b i,a=zO b i->b≠d) :
 Tk l (f.setCell (zA d j) (.slice a m c)) d n (fun q=>if q=j then g else T q):=by
 obtain ⟨v,A,y⟩:=h.row;refine ⟨h.os,h.tape,h.output,by rw [show (f.setCell (zA d j) (.slice a m c)).heap.size=f.heap.size by simp [World.setCell]];exact h.size,
  fun k x hn=>(Below.heap_setCell _ _ _ k hn).trans (h.block k x hn),_,A.set j _,fun q z=>?_⟩
 by_cases e:q=j
 ·subst e;refine ⟨a,m,c,if_pos rfl,?_,p⟩;rw [if_pos rfl];exact w.blocks fun b i e=>Below.heap_setCell _ _ _ b (by simpa using p b i e)
 ·obtain ⟨r,B,s,t,u,o⟩:=y q z;refine ⟨r,B,s,by rw [if_neg e];exact t,?_,o⟩;rw [if_neg e];exact u.blocks fun b i e=>Below.heap_setCell _ _ _ b (by simpa using o b i e)
theorem Tk.congr {d c:World} {a n:Nat} {T b:Nat->zd} (h:Tk d c a n T) (e:∀ q,q<n->T q=b q):Tk d c a n b:=by
 obtain ⟨v,i,g⟩:=h.row;refine ⟨h.os,h.tape,h.output,h.size,h.block,v,i,fun q f=>?_⟩;rw [<-e q f];exact g q f
theorem Tk.below {b c:World} {a n B:Nat} {T:Nat->zd} (h:Tk b c a n T) (d:B<=a) (f:a<b.heap.size):Below B b c :=
 ⟨h.os,h.tape,h.output,h.size,fun k e=>h.block k (by omega) (by omega)⟩
theorem Tk.at {i e:World} {d n:Nat} {T:Nat->zd} (h:Tk i e d n T) {q:Nat} (f:q<n):∃ a m c,e.cell? (zA d q)=some (.slice a m c)/\e.frozen? (zA d q)=false/\RunsIn e a m c (T q)/\∀ b p,a=zO b p->b≠d:=by
 obtain ⟨v,g,o⟩:=h.row;obtain ⟨a,m,c,j,k,l⟩:=o q f;exact ⟨a,m,c,by rw [<-j];exact g.cell f,g.frozen q,k,l⟩
theorem Tk.from {a b d:World} {c n:Nat} {T:Nat->zd} (h:Tk b d c n T) (j:∀ k,k<a.heap.size->k≠c->b.heap[k]?=a.heap[k]?) (e:b.os=a.os) (f:b.tape=a.tape) (g:b.output=a.output) (i:a.heap.size<=b.heap.size):Tk a d c n T :=
 ⟨h.os.trans e,h.tape.trans f,h.output.trans g,Nat.le_trans i h.size,fun k l hn=>(h.block k (by omega) hn).trans (j k l hn),h.row⟩
def wZ (x:Bk) (T:Nat->zd):List Int->Nat->zd
 | []=>T
 | p::ps=>wZ x (fun q=>if q=p.toNat then wh (T p.toNat) x x.bs.length else T q) ps
theorem TG (x:Bk):∀ (a:List Int) (T:Nat->zd) (p:Int),wZ x T (a++[p])=fun q=>if q=p.toNat then wh (wZ x T a p.toNat) x x.bs.length else wZ x T a q
 | [],T,p=>rfl
 | y::a,T,p=>by rw [List.cons_append,wZ,TG x a _ p];rfl
def zM (l:QL) (b:BL):Nat->Nat->zd
 | 0=>fun _=>[(0,0)]
 | j+1=>wZ (bk b j) (zM l b j) (zK l (bk b j).rq.queue)
theorem Tryz.info47:(Tryz.prog.info? 25).map (fun i=>(i.zero,i.size,i.bytes))=some (some zN,1,24):=by kernel_rfl
theorem XU {l:QL} {b:BL} (h:wS l b=0):z9 l=0/\b.length<=12/\∀ i,i<b.length->ZZ l (bk b i)=0:=by
 unfold wS at h;by_cases c:z9 l=0
 ·rw [if_pos c] at h;by_cases f:b.length<=12
  ·rw [if_pos f] at h;refine ⟨c,f,fun i u=>?_⟩;have a:(if Uc l b 7=true then (if Uc l b 2=true then (if Uc l b 6=true then (if Uc l b 3=true then (if Uc l b 1=true then (0:Int) else 1) else 3) else 6) else 2) else 7)=0:=h;have g:Uc l b 7=true:=(by cases e:Uc l b 7 <;> simp [e] at a ⊢);rw [if_pos g] at a;have j:Uc l b 2=true:=(by cases e:Uc l b 2 <;> simp [e] at a ⊢);rw [if_pos j] at a;have m:Uc l b 6=true:=(by cases e:Uc l b 6 <;> simp [e] at a ⊢);rw [if_pos m] at a;have n:Uc l b 3=true:=(by cases e:Uc l b 3 <;> simp [e] at a ⊢);rw [if_pos n] at a;have o:Uc l b 1=true:=(by cases e:Uc l b 1 <;> simp [e] at a ⊢);have d:∀ k,Uc l b k=true->ZZ l (bk b i)≠k:=fun k v=>by
    have:=xv.1 v i u;simpa using this
   have t:=d 7 g;have q:=d 2 j;have s:=d 6 m;have r:=d 3 n;have p:=d 1 o
   revert t q s r p
   unfold ZZ yI z8;rw [if_pos c]
   repeat' split
   all_goals simp
  rw [if_neg f] at h;simp at h
 rw [if_neg c] at h;exact absurd h c
theorem y8 {l:QL} {x:Bk} (d:z9 l=0) (h:ZZ l x=0):meets x.rq x.bs=true/\0<=x.rq.queue/\x.rq.queue<l.length:=by
 unfold ZZ at h;by_cases a:yI l x.rq=0
 ·rw [if_pos a] at h;refine ⟨?_,?_⟩
  ·by_cases b:meets x.rq x.bs=true
   ·exact b
   rw [if_neg b] at h;simp at h
  unfold yI at a;rw [if_pos d] at a;unfold z8 at a;cases c:wV l.length x.rq.queue with
  | true =>
   rw [c,if_pos rfl] at a
   revert a
   repeat' split
   all_goals simp
  | false =>
   simp [wV,yW] at c;omega
 rw [if_neg a] at h;exact absurd h a
def VM (x:Bk) (k t:Nat):Int:=if rN x.bs k<=t/\(t:Int)<rN x.bs k+lenOf x.rq x.bs k then IL x.rq x.bs k else 0
def yo (x:Bk) (t:Nat):Nat->Int
 | 0=>0
 | k+1=>yo x t k+VM x k t
def xh (l:QL) (b:BL) (q t:Nat):Nat->Int
 | 0=>0
 | j+1=>xh l b q t j+if (q:Int)∈zK l (bk b j).rq.queue then yo (bk b j) t (bk b j).bs.length else 0
theorem H9 {g:zd} (hg:zW g) {a b n:Int} (k:0<=a) (l:a<b) (m:b<=48) (hn:1<=n/\n<=50) (f:∀ u:Nat,u<48->0<=zn g u/\zn g u<=1000000) :
 zW (yV g a b n).1/\∀ u:Nat,u<48->zn (yV g a b n).1 u=zn g u+if a<=u/\(u:Int)<b then n else 0:=by
 have h:(Xw a b&&bdd n)=true:=by
  rw [Bool.and_eq_true]
  constructor
  ·simp [Xw];omega
  rw [ZA];omega
 have c:wB (wJ g a b n) 48=true:=by
  rw [ZL];intro i e;have:=f i e;rw [ZA];unfold wJ
  split <;> omega
 have d:yV g a b n=(zD (wJ g a b n) 48,0):=by
  rw [yV,if_pos (zX.2 hg),if_pos h,Yc,if_pos c]
 rw [d];refine ⟨ZP _ 48 (by omega) (by omega) c,fun u j=>?_⟩;show zn (zD (wJ g a b n) 48) u=_;rw [show zn (zD (wJ g a b n) 48) u=wJ g a b n u from Yj _ c u j];unfold wJ
 split <;> omega
theorem Ym {r:Rq} {b:zd} (h:meets r b=true):b.length<=3:=by
 obtain ⟨c,a,d⟩:=yk.1 h;have:=of_decide_eq_true (zv.1 c).2.1;rw [xu] at a
 split at a <;> omega
theorem O3 {x:Bk} (h:meets x.rq x.bs=true) {k:Nat} (a:k<x.bs.length) (t:Nat):0<=VM x k t/\VM x k t<=50:=by
 have:=YC h a;unfold VM
 split <;> omega
theorem Y6 {x:Bk} (h:meets x.rq x.bs=true) (t:Nat):∀ k,k<=x.bs.length->0<=yo x t k/\yo x t k<=50*k
 | 0,_=>by simp [yo]
 | k+1,hk=>by
  have a:=Y6 h t k (by omega);have b:=O3 h (k:=k) (by omega) t;rw [yo];omega
theorem N7 {f:zd} (e:zW f) {x:Bk} (h:meets x.rq x.bs=true) (g:∀ u:Nat,u<48->0<=zn f u/\zn f u<=500000):∀ k,k<=x.bs.length->zW (wh f x k)/\∀ u:Nat,u<48->zn (wh f x k) u=zn f u+yo x u k
 | 0,_=>⟨e,fun u _=>by rw [wh,yo];omega⟩
 | k+1,hk=>by
  obtain ⟨l,d⟩:=N7 e h g k (by omega);have o:=YC h (k:=k) (by omega);have m:=Ym h;obtain ⟨i,j⟩:=H9 l (a:=rN x.bs k) (b:=rN x.bs k+lenOf x.rq x.bs k) (n:=IL x.rq x.bs k) (by omega) (by omega) (by omega) (by omega) (fun u c=>by
   rw [d u c];have:=g u c;have:=Y6 h u k (by omega);omega)
  refine ⟨i,fun u c=>?_⟩;show zn (yV (wh f x k) (rN x.bs k) (rN x.bs k+lenOf x.rq x.bs k) (IL x.rq x.bs k)).1 u=_;rw [j u c,d u c,yo,VM];omega
theorem Th {l:QL} (b:Right l):∀ (m:Nat) (q:Int),q<l.length->q<m->(zK l q).Nodup/\∀ x∈zK l q,0<=x/\x<=q
 | 0,q,h1,h2=>by rw [WZ (by omega)];exact ⟨List.nodup_nil,fun x a=>by cases a⟩
 | m+1,q,h1,h2=>by
  by_cases e:q<0
  ·rw [WZ e];exact ⟨List.nodup_nil,fun x a=>by cases a⟩
  have g:=b.par q.toNat (by omega);obtain ⟨d,c⟩:=Th b m (qu l q.toNat).parent (by omega) (by omega);rw [Y8 b (by omega) h1];refine ⟨List.nodup_cons.2 ⟨fun f=>?_,d⟩,fun x a=>?_⟩
  ·have:=c q f;omega
  rcases List.mem_cons.1 a with rfl | a
  ·omega
  have:=c x a;omega
theorem QQ (x:Bk):∀ (a:List Int) (T:Nat->zd),a.Nodup->(∀ y∈a,0<=y)->∀ q:Nat,wZ x T a q=if (q:Int)∈a then wh (T q) x x.bs.length else T q
 | [],T,_,_,q=>by simp [wZ]
 | p::a,T,hn,hp,q=>by
  rw [List.nodup_cons] at hn;have f:=hp p (by simp);rw [wZ,QQ x a _ hn.2 (fun y d=>hp y (by simp [d])) q];by_cases e:q=p.toNat
  ·have b:(q:Int)=p:=(by omega);rw [if_neg (by rw [b];exact hn.1),if_pos e,if_pos (by rw [b];simp),e]
  have b:(q:Int)≠p:=by omega
  rw [if_neg e];by_cases c:(q:Int)∈a
  ·rw [if_pos c,if_pos (by simp [c])]
  rw [if_neg c,if_neg (by simp [c,b])]
structure Clean (l:QL) (b:BL):Prop where
 tree:z9 l=0
 few:b.length<=12
 each:∀ i,i<b.length->ZZ l (bk b i)=0
theorem O8 {l:QL} {b:BL} (h:wS l b=0):Clean l b:=by
 obtain ⟨a,c,d⟩:=XU h;exact ⟨a,c,d⟩
theorem Xk {l:QL} {b:BL} (h:Clean l b):wS l b=0:=by
 have a:∀ e:Int,e≠0->Uc l b e=true:=fun e c=>by
  unfold Uc;rw [xv];intro i d;rw [h.each i d];simpa using fun h=>c h.symm
 unfold wS;rw [if_pos h.tree,if_pos h.few];show (if Uc l b 7=true then (if Uc l b 2=true then (if Uc l b 6=true then (if Uc l b 3=true then (if Uc l b 1=true then (0:Int) else 1) else 3) else 6) else 2) else 7)=0;rw [if_pos (a 7 (by decide)),if_pos (a 2 (by decide)),if_pos (a 6 (by decide)),if_pos (a 3 (by decide)),if_pos (a 1 (by decide))]
theorem ZT {l:QL} {b:BL} (h:Clean l b):∀ (j:Nat),j<=b.length->∀ q:Nat,zW (zM l b j q)/\∀ t:Nat,t<48->zn (zM l b j q) t=xh l b q t j/\0<=xh l b q t j/\xh l b q t j<=150*j
 | 0,_,q=>⟨by show zW [(0,0)];exact zX.1 (by decide),fun t _=>⟨rfl,by simp [xh],by simp [xh]⟩⟩
 | j+1,hj,q=>by
  obtain ⟨f,c⟩:=ZT h j (by omega) q;obtain ⟨d,v,w⟩:=y8 h.tree (h.each j (by omega));have m:=yY h.tree;obtain ⟨i,k⟩:=Th m (((bk b j).rq.queue).toNat+1) (bk b j).rq.queue (by omega) (by omega);have s:=h.few;have g:=N7 f d (fun u n=>by have:=c u n;omega) (bk b j).bs.length (Nat.le_refl _);rw [zM,QQ _ _ _ i (fun y o=>(k y o).1)];have p:=Ym d;by_cases e:(q:Int)∈zK l (bk b j).rq.queue
  ·rw [if_pos e];refine ⟨g.1,fun t a=>?_⟩;have r:=Y6 d t _ (Nat.le_refl _);have:=c t a;rw [g.2 t a,xh,if_pos e];omega
  rw [if_neg e];refine ⟨f,fun t a=>?_⟩;have:=c t a;rw [xh,if_neg e];omega
theorem XL {F:Fence} {n:Nat} {P:Program} {fn:Func} {tmps:Array Value} {j:Ending->World->Prop} (B:Nat):∀ (c:List Nat) (a:World),B<=a.heap.size->c.Nodup->(∀ D∈c,B<=D/\a.heap[D]?=some (.deferred (some []))) ->
 (∀ b,Below B a b->(∀ (k:Nat) (o:Obj),a.heap[k]?=some o->o.isCells=true->b.heap[k]?=some o)->LeavesIn F n P fn tmps j [] .returning b)->LeavesInM F n P fn tmps j (c.map fun D=>{ target:=.collected D,args:=#[] }) .returning a
 | [],a,_,_,_,h=>h a (Below.refl _ _) (fun _ _ h _=>h)
 | D::c,a,hB,hnd,hm,h=>by
  have d:=hm D (by simp);have l:Below B a (a.putObj D (.deferred none)):=(Below.refl B a).grown (grownBy_putObj' a D _) hB (fun k e=>by cases e;exact d.1);rw [List.nodup_cons] at hnd;refine ⟨by simp,.inl ⟨D,_,rfl,run_takeDeferred d.2,XL B c _ (Nat.le_trans hB l.size) hnd.2 (fun i f=>⟨(hm i (by simp [f])).1,?_⟩) (fun b p q=>h b (l.trans p) (fun k o g m=>q k o ?_ m))⟩⟩
  ·rw [World.putObj_heap_other (fun e=>by subst e;exact hnd.1 f)];exact (hm i (by simp [f])).2
  rw [World.putObj_heap_other (fun e=>by subst e;rw [d.2] at g;cases g;cases m)];exact g
theorem RunsIn.kept {X f:World} {a:Option Addr} {n g:Nat} {l:zd} (h:RunsIn X a n g l) (p:∀ (k:Nat) (o:Obj),X.heap[k]?=some o->o.isCells=true->f.heap[k]?=some o):RunsIn f a n g l:=by
 refine h.of_away fun e b t i=>?_;obtain ⟨s,u,j,m⟩:=h.cells e;rw [i] at j;cases j
 have q:=h.lt e i;have c:X.heap[b]?=some X.heap[b]:=Array.getElem?_eq_getElem q;rw [c];refine p b _ c ?_;have d:=(m 0 e).1;simp only [World.cell?,c] at d;cases r:X.heap[b] with
 | cells=>rfl
 | _=>rw [r] at d;simp at d
theorem Tk.marks {g e f:World} {d n B:Nat} {T:Nat->zd} (h:Tk g e d n T) (b:Below B e f) (r:∀ (k:Nat) (o:Obj),e.heap[k]?=some o->o.isCells=true->f.heap[k]?=some o) (p:g.heap.size=B/\d<B):Tk g f d n T:=by
 obtain ⟨v,x,u⟩:=h.row;refine ⟨b.os.trans h.os,b.tape.trans h.tape,b.output.trans h.output,Nat.le_trans h.size b.size,fun k s t=>(b.block k (by omega)).trans (h.block k s t),v,x.of_block (b.block d p.2),fun q w=>?_⟩;obtain ⟨a,m,c,i,j,l⟩:=u q w;exact ⟨a,m,c,i,j.kept r,l⟩
def Fz (qb qo n cap G:Nat) (ba:Option Addr) (bn bc:Nat) (l:QL) (b:BL) (c8 c25 c26 c27 c28 c29 c30 c31:Value) (W1:World) (a:Act) (W:World):Prop :=
 ∃ (j:Nat) (ds:List Nat) (u10 u35 u36 u37 u38 u39 u40 u41 u42 u53:Value),a={ tmps:=#[.slice (zO qb qo) n cap,.slice ba bn bc,undef,undef,zN,zI 0,zI 0,.pointer (zO (G+1) 0),c8,undef,u10,undef,.slice (zO qb qo) n cap,.slice ba bn bc,zI 0,zI 0,.bool false,undef,.slice (zO qb qo) n cap,zI n,.slice (zO G 0) n n,.slice (zO G 0) n n,zI n,zI n,.bool false,c25,c26,c27,c28,c29,c30,c31,.slice ba bn bc,zI bn,zI j,u35,u36,u37,u38,u39,u40,u41,u42,undef,undef,undef,undef,undef,undef,undef,undef,undef,undef,u53,undef],defers:=ds.map fun D=>{ target:=.collected D,args:=#[] } } /\
  j<=bn/\Tk W1 W G n (zM l b j)/\(∀ D∈ds,G+2<=D/\D<W.heap.size/\W.heap[D]?=some (.deferred (some [])))/\ds.Nodup
def F3 (bn:Nat) (a:Act) (_:World):Nat:=bn-(intOf (a.tmps.getD 34 undef)).toNat
theorem Gq {p q n m c:Nat} {h:Option Addr} {e i:Nat} {l:QL} {b:BL} {C v w x y z A B:Value} {t d W0 s:World} {j D:Nat} {T:Nat->zd} {o:List Nat} {G H I J L M N O P Q:Value} (V:j<e) (g:Tk t d c n T) (a:Below d.heap.size d W0) (u:Tk W0 s c n (zM l b (j+1))) (ab:c+2<=d.heap.size) (aa:t.heap.size=c+2)
 (F:∀ D∈o,c+2<=D/\D<d.heap.size/\d.heap[D]?=some (.deferred (some []))) (X:o.Nodup) (Z:W0.heap.size<=D) (E:s.heap[D]?=some (.deferred (some []))) :
 Fz p q n m c h e i l b C v w x y z A B t { tmps:=#[.slice (zO p q) n m,.slice h e i,undef,undef,zN,zI 0,zI 0,.pointer (zO (c+1) 0),C,undef,G,undef,.slice (zO p q) n m,.slice h e i,zI 0,zI 0,.bool false,undef,.slice (zO p q) n m,zI n,.slice (zO c 0) n n,.slice (zO c 0) n n,zI n,zI n,.bool false,v,w,x,y,z,A,B,.slice h e i,zI e,zI ((j:Int)+1),H,I,J,L,M,N,O,P,undef,undef,undef,undef,undef,undef,undef,undef,undef,undef,Q,undef],defers:={ target:=.collected D,args:=#[] }::(o.map fun D=>{ target:=.collected D,args:=#[] }) } s:=by
 refine ⟨j+1,D::o,G,H,I,J,L,M,N,O,P,Q,by simp,V,?_,fun r f=>?_,?_⟩
 ·exact u.from (fun k W Y=>(a.block k (by omega)).trans (g.block k W Y)) (a.os.trans g.os) (a.tape.trans g.tape) (a.output.trans g.output) (Nat.le_trans g.size a.size)
 ·rw [List.mem_cons] at f;rcases f with rfl | f
  ·exact ⟨by have:=a.size;omega,(Array.getElem?_eq_some_iff.1 E).1,E⟩
  obtain ⟨R,S,U⟩:=F r f;exact ⟨R,by have:=a.size;have:=u.size;omega,(u.block r (by have:=a.size;omega) (by omega)).trans ((a.block r S).trans U)⟩
 ·rw [List.nodup_cons];exact ⟨fun f=>by have:=(F D f).2.1;have:=a.size;omega,X⟩
theorem JX (w:World) (a:Option Addr) (n A:Nat) (l:QL) (t:QsIn w a n A l) (ap:Option Addr) (J W:Nat) (b:BL) (r:BksIn w ap J W b) (aG:wS l b=0) :
 zC 46 #[.slice a n A,.slice ap J W] w fun e w'=>∃ f,e=.returned (.tuple #[.slice (zO f 0) n n,zI 0])/\w.heap.size<=f/\(∃ W0:World,Tk W0 w' f n (zM l b b.length))/\Below w.heap.size w w':=by
 have an:=zh t.len;have cl:=t.capb;have cn:=t.le;obtain ⟨aK,bM,a6⟩:=XU aG;have aA:=zh (yY aK);have bg:0<n:=by have:=aA.o.pos;have:=an.o;omega
 have cd:n<=5:=by have:=aA.o.five;have:=an.o;omega
 obtain ⟨C,G,rfl,aH⟩:=t.cells bg;have cj:C<w.heap.size:=block_lt_of_cell (aH 0 bg).1;have bw:=zh aH;have b8:=zh t;have ay:=zh r;have aQ:=zh r.len;have ci:=r.le;have ch:=r.capb;have bD:=zh fun i (aj:i<b.length)=>y8 aK (a6 i aj);have S:=S6 w (zO C G) n A l t ap J W b r;rw [aG] at S;have bB:=zh S;clear aH t r aG aK bM a6 S;have bV:=run_make_row' (P:=Tryz.prog) 97 25 zN 24 Tryz.underlying97 Tryz.info47 rfl .i64 .i64 n (by omega) (by omega);refine (callsIn_wide (n:=4)).1 ?_;refine callsIn_of_wp_marks Tryz.func46 rfl trivial ?_ rfl;simp only [Tryz.ntmps46,List.size_toArray,List.length_cons,List.length_nil,Nat.reduceAdd,Nat.reduceSub,Array.replicate_succ,Array.replicate_zero,List.push_toArray,List.append_toArray,List.nil_append,List.cons_append]
 gi_wp2_with fail
 refine ⟨trivial,(callsIn_wide.2 bB.o).mono ?_⟩;rintro e E ⟨rfl,ax⟩;have bt:=zh ax;have bm:w.heap.size<=E.heap.size:=ax.size;clear ax
 gi_wp2_with fail
 clear bV;obtain ⟨I,ae⟩:=qA ((E.alloc (.cells (madeCells #[zN] n) 25)).alloc (.cells #[.slice (some ⟨E.heap.size,0,none⟩) n n] 97));have aW:Zh (I.rowIs E.heap.size 25 n (fun _=>.slice none 0 0)):=by rw [<-ae];exact (World.rowIs_made E _ n 25).alloc _
 have ag:Zh (Boxed I (E.heap.size+1) 97 (.slice (zO E.heap.size 0) n n)):=by
  rw [<-ae];have:=Boxed.new (E.alloc (.cells (madeCells #[zN] n) 25)) 97 (.slice (zO E.heap.size 0) n n);rwa [World.size_alloc] at this
 have aN:Zh (Below E.heap.size E I):=by rw [<-ae];exact ((Below.refl _ E).alloc (Nat.le_refl _) _).alloc (by simp) _
 have bl:I.heap.size=E.heap.size+2:=by rw [<-ae];simp
 rw [ae];clear ae;have aY:Zh (Tk I I E.heap.size n (fun _=>[])):=⟨rfl,rfl,rfl,Nat.le_refl _,fun _ _ _=>rfl,_,aW.o,fun q ak=>⟨none,0,0,rfl,ZJ _,fun b ab e=>by cases e⟩⟩;obtain ⟨f,au⟩:=qA (E.heap.size);rw [au] at aW ag aN bl aY bm;rw [au];have bz:=zh au;clear au;have ah:=ag.o.cell
 gi_wp2_with fail
 gi_loopw [8,23] (fun _ p wr=>∃ i:Nat,p=zI i/\i<=n/\Tk I wr f n (fun q=>if q<i then [(0,0)] else [])) (fun _ p _=>n-(intOf p).toNat)
 case atStart=>exact ⟨0,rfl,by omega,aY.o.congr fun q ak=>by rw [if_neg (by omega)]⟩
 case round =>
  clear ah;obtain ⟨i,rfl,aj,av⟩:=hrel;have ao:=zh av;have ah:=(av.box ag.o (by omega)).cell;have b4:I.heap.size<=wr.heap.size:=av.size;have a3:f<wr.heap.size:=by omega
  have bP:f+1<wr.heap.size:=by omega
  clear av;by_cases aa:i<n
  ·have bU:(i:Int)<n:=(by omega);obtain ⟨cb,cu,cc,am,aw,_,_⟩:=ao.o.at aa
   gi_wp2
   go_roundw
   case rel =>
    have bR:Below wr.heap.size wr (wr.alloc (.cells #[zI 0,zI 0] 55)):=zr _ _;have N:=(ao.o.later bR).hit i (a:=zO wr.heap.size 0) (m:=1) (c:=1) (g:=[(0,0)]) (R7 wr [(0,0)] _ 1 rfl rfl (by simp)) (fun b ab e=>by cases e;omega);rw [World.setCell_alloc_past (hn:=a3)] at N;exact ⟨i+1,by go_num,by omega,N.congr fun q ak=>by
     by_cases e:q=i
     ·rw [if_pos e,if_pos (by omega)]
     rw [if_neg e];by_cases a2:q<i
     ·rw [if_pos a2,if_pos (by omega)]
     rw [if_neg a2,if_neg (by omega)]⟩
   case measure=>simp [intOf];omega
  obtain rfl:n=i:=by omega
  have aU:Zh (Tk I wr f n (zM l b 0)):=ao.o.congr fun q ak=>by rw [if_pos ak];rfl
  gi_wp2_with fail
  refine wpIn_loop (Fz C G n A f ap J W l b u8 u25 u26 u27 u28 u29 u30 u31 I) (F3 J) ?start ?round
  case start=>exact ⟨0,[],undef,undef,undef,undef,undef,undef,undef,undef,undef,undef,rfl,by omega,aU.o,fun D Z=>by simp at Z,by simp⟩
  clear ah ao aU b4 a3 bP aa aj;rintro a d ⟨j,a1,cv,cw,cx,cy,cz,cA,cB,cC,cD,b7,rfl,cm,ar,bc,bd⟩;have af:=zh ar;have az:=zh bc;have aS:=zh bd;have bj:f+2<=d.heap.size:=by have:=ar.size;omega
  have a8:Below w.heap.size w d:=(bt.o.trans (aN.o.mono (by have:=bz.o;omega))).trans (ar.below (B:=w.heap.size) (by omega) (by omega));have H:=zh a8;clear ar bc bd a8;generalize ba:(a1.map fun D=>({ target:=.collected D,args:=#[] }:Deferred))=dm;have aR:=zh ba;clear ba;by_cases aa:j<J
  ·have bU:(j:Int)<J:=(by omega);obtain ⟨ad,aq,rfl,a9⟩:=ay.o.cells (by omega);obtain ⟨R,c1,c2,c3,c4,c5,Y⟩:=a9 j aa;have cf:ad<w.heap.size:=block_lt_of_cell R;have cg:ad<d.heap.size:=by have:=H.o.size;omega
   replace R:=cell_later H.o R
   replace c1:=cell_later H.o c1
   replace c2:=cell_later H.o c2
   replace c3:=cell_later H.o c3
   replace c4:=cell_later H.o c4
   replace c5:=cell_later H.o c5
   replace Y:=cell_later H.o Y
   obtain ⟨aI,bZ,b0⟩:=bD.o j (by have:=aQ.o;omega);have aJ:=ay.o.rqs j aa;have aF:=ay.o.bites j aa;have aV:Zh (zM l b (j+1)=wZ (bk b j) (zM l b j) (zK l (bk b j).rq.queue)):=rfl;obtain ⟨X,a5⟩:=qA (bk b j);rw [a5] at R c1 c2 c3 c4 c5 Y aI bZ b0 aJ aF aV;have bC:=zh aI;have bE:=zh aJ;have bu:=zh aF;clear a5 aI aJ aF a9
   gi_wp2_with fail
   refine ⟨trivial,(Hh Fence.wide _ trivial rfl _ _ _ ⟨_,_,_,rfl⟩).mono ?_⟩;rintro e cF ⟨rfl,rfl⟩
   gi_wp2_with fail
   have aC:=Boxed.new ((d.alloc (.cells #[zI X.id,zI X.rq.queue,zI X.rq.fr,zI X.rq.un,zI X.rq.kind,.slice X.rq.pa X.rq.pn X.rq.pc,.slice X.ba X.bn X.bc] 60)).alloc (.cells #[.slice (zO C G) n A] 37)) 3 (zI X.rq.queue);have aD:=Boxed.new (d.alloc (.cells #[zI X.id,zI X.rq.queue,zI X.rq.fr,zI X.rq.un,zI X.rq.kind,.slice X.rq.pa X.rq.pn X.rq.pc,.slice X.ba X.bn X.bc] 60)) 37 (.slice (zO C G) n A);rw [World.size_alloc] at aD;rw [World.size_alloc,World.size_alloc] at aC;have aZ:=aD.alloc (.cells #[zI X.rq.queue] 3);have ai:Below d.heap.size d (((d.alloc (.cells #[zI X.id,zI X.rq.queue,zI X.rq.fr,zI X.rq.un,zI X.rq.kind,.slice X.rq.pa X.rq.pn X.rq.pc,.slice X.ba X.bn X.bc] 60)).alloc (.cells #[.slice (zO C G) n A] 37)).alloc (.cells #[zI X.rq.queue] 3)):=(((Below.refl _ d).alloc (Nat.le_refl _) _).alloc (by simp) _).alloc (by simp;omega) _;have aE:Below (d.alloc (.cells #[zI X.id,zI X.rq.queue,zI X.rq.fr,zI X.rq.un,zI X.rq.kind,.slice X.rq.pa X.rq.pn X.rq.pc,.slice X.ba X.bn X.bc] 60)).heap.size (d.alloc (.cells #[zI X.id,zI X.rq.queue,zI X.rq.fr,zI X.rq.un,zI X.rq.kind,.slice X.rq.pa X.rq.pn X.rq.pc,.slice X.ba X.bn X.bc] 60)) (((d.alloc (.cells #[zI X.id,zI X.rq.queue,zI X.rq.fr,zI X.rq.un,zI X.rq.kind,.slice X.rq.pa X.rq.pn X.rq.pc,.slice X.ba X.bn X.bc] 60)).alloc (.cells #[.slice (zO C G) n A] 37)).alloc (.cells #[zI X.rq.queue] 3)):=(zr _ _).alloc (by simp) _;have b3:(((d.alloc (.cells #[zI X.id,zI X.rq.queue,zI X.rq.fr,zI X.rq.un,zI X.rq.kind,.slice X.rq.pa X.rq.pn X.rq.pc,.slice X.ba X.bn X.bc] 60)).alloc (.cells #[.slice (zO C G) n A] 37)).alloc (.cells #[zI X.rq.queue] 3)).heap.size=d.heap.size+3:=(by simp);obtain ⟨W0,a4⟩:=qA (((d.alloc (.cells #[zI X.id,zI X.rq.queue,zI X.rq.fr,zI X.rq.un,zI X.rq.kind,.slice X.rq.pa X.rq.pn X.rq.pc,.slice X.ba X.bn X.bc] 60)).alloc (.cells #[.slice (some ⟨C,G,none⟩) n A] 37)).alloc (.cells #[zI X.rq.queue] 3));rw [a4] at b3 ai aZ aC aE ⊢;have bI:=zh (Uo d X);have bv:=zh aE;clear a4 aD aE R c1 c2 c3 c4 c5 Y;have bL:Boxed W0 (f+1) 97 (.slice (zO f 0) n n):=(ai.block _ (by omega)).trans (af.o.box ag.o (by omega));have bq:Tk W0 W0 f n (zM l b j):=by
    have N:=af.o.later ai;exact ⟨rfl,rfl,rfl,Nat.le_refl _,fun _ _ _=>rfl,N.row⟩
   have a0:∀ i,i<n->W0.cell? (zA C (G+i*3+1))=some (zI (qu l i).parent):=fun i aj =>
    cell_later ai (cell_later H.o (bw.o i aj).2.1)
   have bx:=zh a0;have bF:=zh bq;have aP:=zh ai;clear a0 bq;refine wpIn_rangeFunc_ownG (F:=Fence.wide) rfl (by omega) (gf:=130) (lb:=#[.pointer (zO (d.heap.size+1+1) 0),.pointer (zO (d.heap.size+1) 0)]) rfl trivial (enters_of Tryz.func130 (by kernel_rfl) rfl)
    (Py Fence.wide _ trivial rfl (by omega) (d.heap.size+1+1) (d.heap.size+1) f C G n A l X.rq.queue aA.o an.o (by have:=an.o;omega) W0 aC aZ (by omega) (by omega) bx.o)
    YO.trans (Rs (by omega)) (Below.refl _ _) (fun _=>rfl)
    (fun al u=>Tk W0 u f n (wZ X (zM l b j) (al.map (·.1))))
    (fun _ _ _=>False)
    (Tk.own (Nat.le_refl _) (by omega))
    (fun c s X z row h _ _=>h)
    bF.o
    (fun x=>{ tmps:=#[.slice (zO C G) n A,.slice (zO ad aq) J W,undef,undef,zN,zI 0,zI 0,.pointer (zO (f+1) 0),u8,undef,.pointer (zO d.heap.size 0),zI x.1,.slice (zO C G) n A,.slice (zO ad aq) J W,zI 0,zI 0,.bool false,undef,.slice (zO C G) n A,zI n,.slice (zO f 0) n n,.slice (zO f 0) n n,zI n,zI n,.bool false,u25,u26,u27,u28,u29,u30,u31,.slice (zO ad aq) J W,zI J,zI j,.bool true,.pointer (zO ad (aq+j*7)),.agg #[zI X.id,zI X.rq.queue,zI X.rq.fr,zI X.rq.un,zI X.rq.kind,.slice X.rq.pa X.rq.pn X.rq.pc,.slice X.ba X.bn X.bc],.slice (zO C G) n A,.pointer (zO d.heap.size 1),.pointer (zO d.heap.size 1),zI X.rq.queue,.func (.func 130) #[] #[.pointer (zO (d.heap.size+1+1) 0),.pointer (zO (d.heap.size+1) 0)],zI x.1,undef,undef,undef,undef,undef,undef,undef,undef,undef,b7,undef],defers:=[] }) ?assign ?body ?done ?stop
   case assign =>
    intro l x d b9 S
    gi_wp2
    exact S
   case body =>
    rintro ct al x u L co;obtain ⟨x,b6,cs⟩:=x;obtain ⟨P,rfl⟩:=Int.eq_ofNat_of_zero_le b6;have bQ:P<n:=(by omega);have ce:(P:Int)<n:=(by omega);obtain ⟨aB,aM,aL,am,aw,bh,bX⟩:=L.at bQ;have aO:=zh (L.box bL (by omega)).cell;have aX:=zh am;have bK:=zh aw;have aT:=zh bh;have cr:W0.heap.size<=u.heap.size:=L.size;have br:Zh (∀ z,Below u.heap.size u z->z.cell? (zA d.heap.size 0)=some (zI X.id)/\z.cell? (zA d.heap.size 1)=some (zI X.rq.queue)/\z.cell? (zA d.heap.size 2)=some (zI X.rq.fr)/\z.cell? (zA d.heap.size 3)=some (zI X.rq.un)/\z.cell? (zA d.heap.size 4)=some (zI X.rq.kind)/\z.cell? (zA d.heap.size 5)=some (.slice X.rq.pa X.rq.pn X.rq.pc)/\z.cell? (zA d.heap.size 6)=some (.slice X.ba X.bn X.bc)):=fun z M=>by
     obtain ⟨R,c1,c2,c3,c4,c5,Y⟩:=bI.o W0 bv.o;have e:u.heap[d.heap.size]?=W0.heap[d.heap.size]?:=L.block _ (by omega) (by omega);exact ⟨cell_later M ((World.cell?_of_block (w:=W0) (a:=(zA d.heap.size 0)) e).trans R),cell_later M ((World.cell?_of_block (w:=W0) (a:=(zA d.heap.size 1)) e).trans c1),cell_later M ((World.cell?_of_block (w:=W0) (a:=(zA d.heap.size 2)) e).trans c2),cell_later M ((World.cell?_of_block (w:=W0) (a:=(zA d.heap.size 3)) e).trans c3),cell_later M ((World.cell?_of_block (w:=W0) (a:=(zA d.heap.size 4)) e).trans c4),cell_later M ((World.cell?_of_block (w:=W0) (a:=(zA d.heap.size 5)) e).trans c5),cell_later M ((World.cell?_of_block (w:=W0) (a:=(zA d.heap.size 6)) e).trans Y)⟩
    have bo:Below w.heap.size w u:=(H.o.trans (aP.o.mono (by have:=H.o.size;omega))).trans (L.below (B:=w.heap.size) (by omega) (by omega));have bG:=zh L;obtain ⟨g,hg⟩:=qA (wZ X (zM l b j) (al.map (·.1)) P);rw [hg] at aT;have bA:=zh hg;have bi:zH u X.rq:=zH.later bE.o bo;have a7:RunsIn u X.ba X.bn X.bc X.bs:=bu.o.later bo;have bJ:=zh fun z (M:Below u.heap.size u z)=>Ho z aB aM aL g (aT.o.later M) X (zH.later bi M) (a7.later M) bC.o;clear L am aw bh bX hg bi a7
    gi_wp2_with fail
    refine Tx ((Tryz.f46.body.bind fun c=>yi c 15).getD #[]) (by kernel_rfl) [zl (.slice (zO f 0) n n),zl (zI P),zl (.slice (zO f 0) n n),zl (zI P),zl (.pointer (zO f P)),zl (.slice aB aM aL),zl (.agg #[zI X.id,zI X.rq.queue,zI X.rq.fr,zI X.rq.un,zI X.rq.kind,.slice X.rq.pa X.rq.pn X.rq.pc,.slice X.ba X.bn X.bc]),⟨fun v z=>∃ O V U,v=.slice O V U/\RunsIn z O V U (wh g X X.bs.length)/\∀ b ab,O=zO b ab->u.heap.size<=b,fun _ z ca ⟨O,V,U,N,bN,bO⟩ r=>⟨O,V,U,N,bN.later r,bO⟩⟩,zl (.pointer (zO f P)),zl undef] 9 (by kernel_rfl) (by kernel_rfl) (by kernel_rfl) (by kernel_rfl) ?hstep ?hlast
    case hstep =>
     refine zc.cons 1 rfl ?_ ?_
     ·intro _ T w' r t y;have Q:T.getD 7 undef=.pointer (zO (f+1) 0):=t 7;have ah:=cell_later r aO.o;exact zs (by go_simp) rfl
     refine zc.cons 2 rfl ?_ ?_
     ·intro _ T w' r t y;have Q:T.getD 11 undef=zI P:=t 11;exact zs (by go_simp) rfl
     refine zc.cons 3 rfl ?_ ?_
     ·intro _ T w' r t y;have Q:T.getD 7 undef=.pointer (zO (f+1) 0):=t 7;have ah:=cell_later r aO.o;exact zs (by go_simp) rfl
     refine zc.cons 4 rfl ?_ ?_
     ·intro _ T w' r t y;have Q:T.getD 11 undef=zI P:=t 11;exact zs (by go_simp) rfl
     refine zc.cons 5 rfl ?_ ?_
     ·intro _ T w' r t y;have Q:T.getD 46 undef=_:=y 2 46;have N:T.getD 47 undef=_:=y 3 47;exact zs (by go_simp) rfl
     refine zc.cons 6 rfl ?_ ?_
     ·intro _ T w' r t y;have Q:T.getD 48 undef=_:=y 4 48;have am:=cell_later r aX.o;exact zs (by go_simp) rfl
     refine zc.cons 7 rfl ?_ ?_
     ·intro _ T w' r t y;have Q:T.getD 10 undef=.pointer (zO d.heap.size 0):=t 10;obtain ⟨R,c1,c2,c3,c4,c5,Y⟩:=br.o w' r;exact zs (by go_simp) rfl
     refine zc.cons 8 rfl ?_ ?_
     ·intro _ T w' r t y;have Q:T.getD 49 undef=_:=y 5 49;have N:T.getD 50 undef=_:=y 6 50;refine Or.inr ⟨82,#[.slice aB aM aL,.agg #[zI X.id,zI X.rq.queue,zI X.rq.fr,zI X.rq.un,zI X.rq.kind,.slice X.rq.pa X.rq.pn X.rq.pc,.slice X.ba X.bn X.bc]],by go_simp,?_⟩;refine (bJ.o w' r).mono ?_;rintro e cE ⟨O,V,U,rfl,b1,bS,bY⟩;exact ⟨_,rfl,⟨O,V,U,rfl,b1,fun b ab e=>by have:=bY b ab e;have:=r.size;omega⟩,bS⟩
     refine zc.cons 9 rfl ?_ ?_
     ·intro _ T w' r t y;have Q:T.getD 44 undef=_:=y 0 44;have N:T.getD 45 undef=_:=y 1 45;exact zs (by go_simp) rfl
     exact ⟨fun h=>absurd rfl h,trivial⟩
    case hlast =>
     intro o be T w' r cq t y;have bf:((Tryz.f46.body.bind fun c=>yi c 15).getD #[])[9]?=some { dst:=none,op:=Op.store 25 (Operand.tmp 52) (Operand.tmp 51),type:=0,pos:= "load.go:26",after:=#[{ on:=8,ground:=Ground.data },{ on:=7,ground:=Ground.data },{ on:=7,ground:=Ground.chain },{ on:=0,ground:=Ground.phase },{ on:=1,ground:=Ground.phase },{ on:=2,ground:=Ground.phase },{ on:=3,ground:=Ground.phase },{ on:=4,ground:=Ground.phase },{ on:=5,ground:=Ground.phase },{ on:=6,ground:=Ground.phase },{ on:=7,ground:=Ground.phase }],guard:=none }:=(by kernel_rfl);rw [bf] at be;cases be
     clear bf;have Q:T.getD 52 undef=.pointer (zO f P):=y 8 52 (by decide) (by kernel_rfl);obtain ⟨O,V,U,N,b2,bW⟩:=y 7 51 (by decide) (by kernel_rfl);have am:=cell_later r aX.o;have aw:=(World.frozen?_of_block (w:=u) (a:=(zA f P)) (r.block f (by omega))).trans bK.o;refine ⟨w'.setCell (zA f P) (.slice O V U),by go_simp,?_⟩;refine ⟨?_,?_,?_⟩
     ·exact (KeepsOthers.trans (⟨r.size,fun k o bb _=>(r.block k (Array.getElem?_eq_some_iff.1 bb).1).trans bb⟩:KeepsOthers u w') (KeepsOthers.setCell _ _ _)).from _
     ·exact ⟨(show Below f u w' from r.mono (by omega)).setCell (Nat.le_refl _) _,fun v bn=>(Below.heap_setCell _ _ _ _ (by simp only;omega)).trans ((r.block _ bn.lt).trans bn)⟩
     show Tk W0 _ f n (wZ X (zM l b j) (List.map (fun x:QN n=>x.1) (al++[_])));rw [List.map_append,List.map_cons,List.map_nil,TG];have:=(bG.o.later r).hit P b2 (fun b ab e=>by have:=bW b ab e;omega);exact this.congr fun q ak=>by
      show (if q=P then wh g X X.bs.length else _)=_;rw [Int.toNat_natCast,bA.o]
   case done =>
    rintro D cG u Z bp L S;rw [bp] at L;have bH:Zh (Tk W0 u f n (zM l b (j+1))):=(by show Tk W0 u f n (zM l b (j+1));rw [aV.o];exact L);clear L bp
    gi_wp2
    rw [<-aR.o];exact ⟨Gq aa af.o aP.o bH.o bj bl az.o aS.o Z S,by simp [F3,intOf];omega⟩
   case stop =>
    rintro D c al u Z cp h S;cases h
  obtain rfl:J=j:=by omega
  have ck:=(af.o.box ag.o (by omega)).cell
  gi_wp2
  show LeavesInM _ _ _ _ _ _ dm _ _;rw [<-aR.o];refine XL (f+2) a1 d bj aS.o (fun D Z=>⟨(az.o D Z).1,(az.o D Z).2.2⟩) (fun u r bT=>?_);have b5:=af.o.marks r bT (by omega);refine ⟨_,results_tmp2 rfl _ _ _,f,rfl,bm,⟨_,by rw [<-aQ.o];exact b5⟩,?_⟩;exact H.o.trans (r.mono (by omega))
theorem FA (w:World) (a:Option Addr) (n i:Nat) (l:QL) (v:QsIn w a n i l) (f:Option Addr) (h g:Nat) (b:BL) (t:BksIn w f h g b) (u:wS l b=0) :
 zC 46 #[.slice a n i,.slice f h g] w fun e w'=>∃ d,e=.returned (.tuple #[.slice (zO d 0) n n,zI 0])/\w.heap.size<=d/\(∀ q,q<n->∃ a m c,w'.cell? (zA d q)=some (.slice a m c)/\RunsIn w' a m c (zM l b b.length q))/\Below w.heap.size w w':=by
 refine (JX w a n i l v f h g b t u).mono ?_;rintro e w' ⟨d,p,r,⟨W0,y⟩,s⟩;refine ⟨d,p,r,fun q x=>?_,s⟩;obtain ⟨j,A,z,k,_,o,_⟩:=y.at x;exact ⟨j,A,z,k,o⟩
def Vx (w:World) (G n:Nat) (T:Nat->zd):Prop:=∀ q,q<n->∃ a m c,w.cell? (zA G q)=some (.slice a m c)/\RunsIn w a m c (T q)
theorem Vx.later {w w':World} {b n:Nat} {T:Nat->zd} (h:Vx w b n T) (d:Below w.heap.size w w'):Vx w' b n T:=fun q g=>by
 obtain ⟨a,m,c,e,f⟩:=h q g;exact ⟨a,m,c,cell_later d e,f.later d⟩
def GU (w w':World) (e:Ending) (n:Nat) (T:Nat->zd) (er:Int):Prop:=∃ a m c,e=.returned (.tuple #[.slice a m c,zI er])/\(er=0->∃ G,a=zO G 0/\n=m/\n=c/\Vx w' G n T)/\(er≠0->a=none/\m=0/\c=0)/\Below w.heap.size w w'
theorem PM (w:World) (a:Option Addr) (n i:Nat) (l:QL) (k:QsIn w a n i l) (d:Option Addr) (g f:Nat) (b:BL) (j:BksIn w d g f b) :
 zC 46 #[.slice a n i,.slice d g f] w fun e w'=>GU w w' e n (zM l b b.length) (wS l b):=by
 by_cases c:wS l b=0
 ·refine (FA w a n i l k d g f b j c).mono ?_;rintro e w' ⟨p,rfl,_,u,t⟩;rw [c];exact ⟨_,_,_,rfl,fun _=>⟨p,rfl,rfl,rfl,u⟩,fun h=>absurd rfl h,t⟩
 ·have v:(wS l b != 0)=true:=by simp [c]
  have s:=zh (S6 w a n i l k d g f b j);have r:=zh c;clear k j c;refine (callsIn_wide (n:=4)).1 ?_;refine callsIn_of_wp_marks Tryz.func46 rfl trivial ?_ rfl;simp only [Tryz.ntmps46,List.size_toArray,List.length_cons,List.length_nil,Nat.reduceAdd,Nat.reduceSub,Array.replicate_succ,Array.replicate_zero,List.push_toArray,List.append_toArray,List.nil_append,List.cons_append]
  gi_wp2_with fail
  refine ⟨trivial,(callsIn_wide.2 s.o).mono ?_⟩;rintro e x ⟨rfl,m⟩;have q:=zh m;clear m
  gi_wp2
  exact ⟨_,results_tmp2 rfl _ _ _,none,0,0,rfl,fun h=>absurd h r.o,fun _=>⟨rfl,rfl,rfl⟩,q.o⟩
def Vk (r t:zd) (fm:Int):Bool:=if fm=48 then false else decide ((xN (xl (fun x y=>x-y) r t).1 fm 48).1<0)
theorem Jy (w:World) (g h:Option Addr) (k c1 l c2:Nat) (r t:zd) (p:RunsIn w g k c1 r) (q:RunsIn w h l c2 t) (fm:Int) :
 zC 85 #[.slice g k c1,.slice h l c2,zI fm] w fun e w'=>e=.returned (.bool (Vk r t fm))/\Below w.heap.size w w':=by
 by_cases d:fm=48
 ·subst d;go_enter Tryz.func85,Tryz.ntmps85;go_wp2;go_ret;exact ⟨rfl,Below.refl _ _⟩
 ·have E:(fm==48)=false:=by simp [d]
  have z:Vk r t fm=decide ((xN (xl (fun x y=>x-y) r t).1 fm 48).1<0):=if_neg d;rw [z];have n:=zh (QK w g h k l c1 c2 r t p q);obtain ⟨b,i⟩:=qA (xl (fun x y=>x-y) r t);rw [i] at n;rw [i];obtain ⟨x,j⟩:=qA (xN b.1 fm 48);rw [j];have C:=zh j;clear z i d p q j;go_enter Tryz.func85,Tryz.ntmps85;go_wp2_with fail
  refine n.o.mono ?_;rintro e D ⟨a,m,c,rfl,v,s⟩;have A:=zh s;go_wp2_with fail
  have f:=QJ D a m c b.1 fm 48 v;rw [C.o] at f;refine f.mono ?_;clear f;rintro e F ⟨rfl,u⟩;have B:=zh (za A.o u);clear v s u;go_wp2;go_ret;exact ⟨rfl,B.o⟩
def Zt (l:QL) (T:Nat->zd) (fm:Int):Nat->Bool
 | 0=>true
 | k+1=>Zt l T fm k&&!Vk (qu l k).runs (T k) fm
theorem Q9 {l:QL} {T:Nat->zd} {fm:Int} {k:Nat} (h:Vk (qu l k).runs (T k) fm=true):∀ n,k<n->Zt l T fm n=false
 | 0,hn=>by omega
 | n+1,hn=>by
  by_cases e:k=n
  ·subst e;simp [Zt,h]
  rw [Zt,Q9 h n (by omega)];rfl
def Uy (l:QL) (b:BL) (fm:Int):Int:=if wS l b=0 then (if fm<0\/48<fm then 3 else 0) else wS l b
def YS (l:QL) (b:BL) (fm:Int):Bool:=if Uy l b fm=0 then Zt l (zM l b b.length) fm l.length else false
theorem JT (w:World) (a:Option Addr) (n z:Nat) (l:QL) (i:QsIn w a n z l) (O:Option Addr) (Q P:Nat) (b:BL) (f:BksIn w O Q P b) (fm:Int) :
 zC 51 #[.slice a n z,.slice O Q P,zI fm] w fun e w'=>e=.returned (.tuple #[.bool (YS l b fm),zI (Uy l b fm)])/\Below w.heap.size w w':=by
 have x:=zh (PM w a n z l i O Q P b f);by_cases r:wS l b=0
 ·rw [r] at x;have q:Uy l b fm=if fm<0\/48<fm then 3 else 0:=if_pos r;by_cases A:fm<0\/48<fm
  ·rw [if_pos A] at q;have t:YS l b fm=false:=(by rw [YS,q];rfl);rw [q,t];clear q t r i f;by_cases m:fm<0
   ·clear A;go_enter Tryz.func51,Tryz.ntmps51;go_wp2_with fail
    refine x.o.mono ?_;rintro e I ⟨N,aa,Z,rfl,u,_,f⟩;have s:=zh f;clear f u;go_wp2;go_ret2
    exact ⟨rfl,s.o⟩
   have aI:(48:Int)<fm:=(by omega);clear A;go_enter Tryz.func51,Tryz.ntmps51;go_wp2_with fail
   refine x.o.mono ?_;rintro e I ⟨N,aa,Z,rfl,u,_,f⟩;have s:=zh f;clear f u;go_wp2;go_ret2
   exact ⟨rfl,s.o⟩
  rw [if_neg A] at q;have t:YS l b fm=Zt l (zM l b b.length) fm l.length:=by rw [YS,q];rfl
  rw [q,t];have m:¬fm<0:=by omega
  have aI:¬(48:Int)<fm:=by omega
  have aE:=zh i.len;have aS:=i.le;have aQ:=i.capb;obtain ⟨T,W⟩:=qA (zM l b b.length);rw [W] at x;rw [W];rw [<-aE.o];obtain ⟨y,U⟩:=qA (Zt l T fm n);rw [U];have ag:=zh U;have aK:0<n:=by have:=(yY (XU r).1).pos;have:=i.len;omega
  obtain ⟨G,H,rfl,av⟩:=i.cells aK;have aC:=zh av;have aD:=zh i;clear q t r i f A W U av;go_enter Tryz.func51,Tryz.ntmps51;go_wp2_with fail
  refine x.o.mono ?_;rintro e I ⟨N,aa,Z,rfl,u,_,f⟩;obtain ⟨J,rfl,rfl,rfl,az⟩:=u rfl;have s:=zh f;have aF:=zh az;clear f u az;go_wp2_with fail
  go_loopw [10,28] (fun _ p wr=>∃ k:Nat,p=zI k/\k<=n/\Zt l T fm k=true/\zL I wr) (fun _ p _=>n-(intOf p).toNat)
  case atStart=>exact ⟨0,rfl,by omega,rfl,Below.refl _ _⟩
  obtain ⟨k,rfl,aR,aw,ao⟩:=hrel;have ai:=zh aw;have B:=zh ao;clear aw ao;by_cases F:k<n
  ·have aT:(k:Int)<n:=(by omega);have X:=za s.o B.o;obtain ⟨ab,ae,ad,ax,ay⟩:=aF.o.later B.o k F;have aB:=zh ax;have af:=zh (cell_later X (aC.o k F).2.2);have au:=(aD.o.caps k F).later X;obtain ⟨S,V⟩:=qA (Vk (qu l k).runs (T k) fm);have M:=zh fun ak (am:zL wr ak)=>Jy ak (qu l k).ca ab (qu l k).cn (qu l k).cc ae ad (qu l k).runs (T k) (au.later am) (ay.later am) fm;rw [V] at M;have aj:=zh V;obtain ⟨C,ap⟩:=qA ((qu l k).ca);obtain ⟨E,ar⟩:=qA ((qu l k).cn);obtain ⟨D,aq⟩:=qA ((qu l k).cc);rw [ap,ar,aq] at af M;clear ax ay au V ap ar aq X;go_wp2_with fail
   go_cut [41] (fun v aM=>v=.bool S/\zL wr aM)
   case first =>
    refine zV ((Tryz.f51.body.bind fun c=>yi c 9).getD #[]) (by kernel_rfl) [zl (.slice (zO G H) n z),zl (zI k),zl (.pointer (zO G (H+k*3))),zl (.pointer (zO G (H+k*3+2))),zl (.slice C E D),zl (.slice (zO J 0) n n),zl (zI k),zl (.pointer (zO J k)),zl (.slice ab ae ad),zl (zI fm),zl (.bool S)] [] (by kernel_rfl) (by kernel_rfl) (by kernel_rfl) ?hg ?hstep ?hfin
    case hg =>
     intro g hg v w h;cases hg
    case hstep =>
     refine zc.cons 1 rfl ?_ ?_
     ·intro T w' f i j;have m:T.getD 0 undef=.slice (zO G H) n z:=i 0;exact zs (by go_simp) rfl
     refine zc.cons 2 rfl ?_ ?_
     ·intro T w' f i j;have m:T.getD 10 undef=zI k:=i 10;exact zs (by go_simp) rfl
     refine zc.cons 3 rfl ?_ ?_
     ·intro T w' f i j;have m:T.getD 31 undef=_:=j 0 31;have al:T.getD 32 undef=_:=j 1 32;exact zs (by go_simp) rfl
     refine zc.cons 4 rfl ?_ ?_
     ·intro T w' f i j;have m:T.getD 33 undef=_:=j 2 33;exact zs (by go_simp) rfl
     refine zc.cons 5 rfl ?_ ?_
     ·intro T w' f i j;have m:T.getD 34 undef=_:=j 3 34;have aN:=cell_later f af.o;exact zs (by go_simp) rfl
     refine zc.cons 6 rfl ?_ ?_
     ·intro T w' f i j;have m:T.getD 8 undef=.slice (zO J 0) n n:=i 8;exact zs (by go_simp) rfl
     refine zc.cons 7 rfl ?_ ?_
     ·intro T w' f i j;have m:T.getD 10 undef=zI k:=i 10;exact zs (by go_simp) rfl
     refine zc.cons 8 rfl ?_ ?_
     ·intro T w' f i j;have m:T.getD 36 undef=_:=j 5 36;have al:T.getD 37 undef=_:=j 6 37;exact zs (by go_simp) rfl
     refine zc.cons 9 rfl ?_ ?_
     ·intro T w' f i j;have m:T.getD 38 undef=_:=j 7 38;have aO:=cell_later f aB.o;exact zs (by go_simp) rfl
     refine zc.cons 10 rfl ?_ ?_
     ·intro T w' f i j;have m:T.getD 2 undef=zI fm:=i 2;exact zs (by go_simp) rfl
     refine zc.cons 11 rfl ?_ ?_
     ·intro T w' f i j;have m:T.getD 35 undef=_:=j 4 35;have al:T.getD 39 undef=_:=j 8 39;have aP:T.getD 40 undef=_:=j 9 40;refine Or.inr ⟨85,#[.slice C E D,.slice ab ae ad,zI fm],by go_simp,?_⟩;refine (M.o w' f).mono ?_;rintro e aV ⟨rfl,aJ⟩;exact ⟨_,rfl,rfl,aJ⟩
     exact trivial
    intro T w' f aL i j;have aG:T.getD 41 undef=.bool S:=j 10 41;rw [yb (tt 31 [false,false,false,false,false,false,false,false,false,false,false] 1) (by kernel_rfl) aL @i];obtain ⟨us,aA⟩:∃ us:Nat->Value,(fun d=>T.getD d undef)=us:=⟨_,rfl⟩;rw [aA];have aH:us 41=.bool S:=(by rw [<-aA];exact aG);apply_assumption;simp only [xj,tt,List.replicate,List.cons_append,List.nil_append];go_meet;exact ⟨aH,f⟩
   obtain ⟨rfl,an⟩:=hcut;have ah:=zh (za B.o an);clear an;cases S with
   | true =>
    have L:Zh (false=y):=(by show false=y;rw [<-ag.o,Q9 aj.o n F]);go_wp2;go_ret2
    rw [<-L.o];exact ⟨rfl,za s.o ah.o⟩
   | false =>
    go_wp2;go_roundw
    case rel=>exact ⟨k+1,by go_num,by omega,by rw [Zt,ai.o,aj.o];rfl,ah.o⟩
    case measure=>simp [intOf];omega
  obtain rfl:k=n:=by omega
  have L:Zh (true=y):=by show true=y;rw [<-ag.o,ai.o]
  go_wp2;go_ret2
  rw [<-L.o];exact ⟨rfl,za s.o B.o⟩
 ·have q:Uy l b fm=wS l b:=if_neg r;have t:YS l b fm=false:=by rw [YS,q,if_neg r]
  rw [q,t];obtain ⟨R,Y⟩:=qA (wS l b);rw [Y] at x r;rw [Y];have aU:(R != 0)=true:=by simp [r]
  clear q t i f Y r;go_enter Tryz.func51,Tryz.ntmps51;go_wp2_with fail
  refine x.o.mono ?_;rintro e I ⟨N,aa,Z,rfl,u,_,f⟩;have s:=zh f;clear f u;go_wp2;go_ret2
  exact ⟨rfl,s.o⟩
theorem QW {l:zd}:∀ {n:Nat},Xj l n=true->∀ k,k<n->0<=rN l k/\rN l k<=50
 | 0,_,k,hk=>by omega
 | n+1,h,k,hk=>by
  rw [Xj,Bool.and_eq_true] at h;by_cases e:k=n
  ·subst e;exact of_decide_eq_true h.2
  exact QW h.1 k (by omega)
theorem Yx {l:QL} (h:z9 l=0) {p:Nat} (e:p<l.length):zW (qu l p).runs/\∀ t:Nat,0<=zn (qu l p).runs t/\zn (qu l p).runs t<=50:=by
 have d:ZX l=true:=by
  unfold z9 at h
  revert h
  repeat' split
  all_goals simp_all
 have a:=Um.1 d p e;simp only [yR,Bool.and_eq_true] at a;have b:=zX.1 a.1;refine ⟨b,fun t=>?_⟩;obtain ⟨j,c⟩:=V8 b.rises (t:=(t:Int)) (by omega);have:=QW a.2 j c.1;rw [show zn (qu l p).runs t=XJ (qu l p).runs t from rfl,<-c.val b.rises];exact this
theorem Sr {jn:Int->Int->Int} {f g:zd} (c:zW f) (hg:zW g) (h:∀ t,t<48->-1048576<=jn (zn f t) (zn g t)/\jn (zn f t) (zn g t)<=1048576):zW (xl jn f g).1/\(xl jn f g).2=0/\∀ t,t<48->zn (xl jn f g).1 t=jn (zn f t) (zn g t):=by
 have a:wB (jv jn f g) 48=true:=by
  rw [ZL];intro i d;rw [ZA];exact h i d
 have b:xl jn f g=(zD (jv jn f g) 48,0):=by rw [xl,if_pos (by rw [zX.2 c,zX.2 hg];rfl),Yc,if_pos a]
 rw [b];exact ⟨ZP _ 48 (by omega) (by omega) a,rfl,fun t e=>Yj _ a t e⟩
theorem LN {f:zd} (h:zW f) (t:Nat):-1048576<=zn f t/\zn f t<=1048576:=ZA.1 (Tv h (t:Int) (by omega))
def Tl (l:QL) (q t:Nat) (x:Bk):Int:=if (q:Int)∈zK l x.rq.queue then yo x t x.bs.length else 0
theorem L8 (l:QL) (b:BL) (q t:Nat):∀ j,j<=b.length->xh l b q t j=((b.take j).map (Tl l q t)).sum
 | 0,_=>by simp [xh]
 | j+1,hj=>by
  have a:j<b.length:=by omega
  have e:bk b j=b[j]:=by simp [bk,List.getD,a]
  rw [xh,L8 l b q t j (by omega),List.take_succ_eq_append_getElem a,List.map_append,List.sum_append,e];simp [Tl]
theorem XI (l:QL) (b:BL) (q t:Nat):xh l b q t b.length=(b.map (Tl l q t)).sum:=by
 rw [L8 l b q t b.length (Nat.le_refl _),List.take_length]
theorem Ta {b:BL} {i:Nat} (h:i<b.length):bk b i=b[i]:=by simp [bk,List.getD,h]
theorem yx {b:BL} {i:Nat} (h:i<b.length):bk b i∈b:=by rw [Ta h];exact List.getElem_mem h
theorem yT {b:BL} {x:Bk} (h:x∈b):∃ i,i<b.length/\bk b i=x:=by
 obtain ⟨i,a,e⟩:=List.getElem_of_mem h;exact ⟨i,a,by rw [Ta a,e]⟩
theorem Tc {l:QL} {b c:BL} (h:Clean l b) (a:c.length<=12) (g:∀ x∈c,x∈b):Clean l c :=
 ⟨h.tree,a,fun i d=>by
  obtain ⟨j,f,e⟩:=yT (g _ (yx d));rw [<-e];exact h.each j f⟩
theorem Uu {l:QL} {b:BL} (h:Clean l b) {x:Bk} (c:x∈b):meets x.rq x.bs=true/\0<=x.rq.queue/\x.rq.queue<l.length:=by
 obtain ⟨i,a,rfl⟩:=yT c;exact y8 h.tree (h.each i a)
theorem LW {l:QL} {x:Bk} (h:meets x.rq x.bs=true) (q t:Nat):0<=Tl l q t x/\Tl l q t x<=150:=by
 have:=Y6 h t x.bs.length (Nat.le_refl _);have:=Ym h;unfold Tl
 split <;> omega
theorem IX {b:BL} {i:Nat} (h:i<b.length):b=b.take i++bk b i::b.drop (i+1):=by
 rw [Ta h,List.getElem_cons_drop,List.take_append_drop]
theorem JD (l:QL) (q t:Nat) {b:BL} {i:Nat} (h:i<b.length):(b.map (Tl l q t)).sum=Tl l q t (bk b i)+((b.take i++b.drop (i+1)).map (Tl l q t)).sum:=by
 conv=>lhs;rw [IX h]
 simp only [List.map_append,List.map_cons,List.sum_append,List.sum_cons];omega
theorem Pw {l:QL} {b:BL} (h:Clean l b) {q:Nat} (r:q<l.length) {fm:Int} (z:0<=fm) (A:fm<=48) :
 Vk (qu l q).runs (zM l b b.length q) fm=false↔∀ t:Nat,fm<=t->t<48->xh l b q t b.length<=zn (qu l q).runs t:=by
 obtain ⟨c1,c2⟩:=Yx h.tree r;obtain ⟨v,f⟩:=ZT h b.length (Nat.le_refl _) q;have B:=h.few;obtain ⟨j,_,d⟩:=Sr (jn:=fun x y=>x-y) c1 v (fun t u=>by have:=c2 t;have:=f t u;omega);unfold Vk;by_cases e:fm=48
 ·rw [if_pos e];exact ⟨fun _ t n a=>by omega,fun _=>rfl⟩
 ·rw [if_neg e];obtain ⟨g,hg⟩:=qA ((xl (fun x y=>x-y) (qu l q).runs (zM l b b.length q)).1);rw [hg] at j d ⊢;have p:xN g fm 48=(YT (zn g) fm.toNat (48-fm.toNat),0):=by
   unfold xN;rw [if_pos (zX.2 j),if_pos (by simp [Xw];omega)];rfl
  rw [p];have i:=Y9 (zn g) fm.toNat (48-fm.toNat) (by omega);rw [show fm.toNat+(48-fm.toNat)=48 by omega] at i;obtain ⟨k,s,w,c,m⟩:=i;rw [decide_eq_false_iff_not]
  constructor
  ·intro hn t n a;have:=k t (by omega) a;rw [d t a,(f t a).1] at this;simp only at hn;omega
  intro o hn;simp only at hn;have:=o s (by omega) c;rw [m,d s c,(f s c).1] at hn;omega
theorem Rh {l:QL} {T:Nat->zd} {fm:Int}:∀ {n:Nat},Zt l T fm n=true↔∀ q,q<n->Vk (qu l q).runs (T q) fm=false
 | 0=>by simp [Zt]
 | n+1=>by
  simp only [Zt,Bool.and_eq_true,Rh (n:=n),Bool.not_eq_true']
  constructor
  ·rintro ⟨a,b⟩ q c;by_cases e:q=n
   ·subst e;exact b
   exact a q (by omega)
  intro h;exact ⟨fun q c=>h q (by omega),h n (by omega)⟩
theorem Ni {l:QL} {b:BL} (h:Clean l b) {fm:Int} (a:0<=fm) (c:fm<=48):Uy l b fm=0:=by
 unfold Uy;rw [if_pos (Xk h),if_neg (by omega)]
theorem Nj {l:QL} {b:BL} (h:Clean l b) {fm:Int} (c:0<=fm) (d:fm<=48) :
 YS l b fm=true↔∀ q:Nat,q<l.length->∀ t:Nat,fm<=t->t<48->xh l b q t b.length<=zn (qu l q).runs t:=by
 unfold YS;rw [if_pos (Ni h c d),Rh]
 constructor
 ·intro e q a;exact (Pw h a c d).1 (e q a)
 ·intro e q a;exact (Pw h a c d).2 (e q a)
end Go.Proofs.YtckpdfkobdgjeaaGreatDoor
