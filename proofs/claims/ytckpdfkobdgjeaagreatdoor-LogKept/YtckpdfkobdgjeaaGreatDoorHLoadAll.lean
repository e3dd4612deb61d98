/- Several texts in one: LoadA, LoadB, LoadC, LoadH, LoadD, LoadM, LoadE, LoadF, LoadK. -/
import Derived.Deep.DeepCutAuto
import Derived.Test.YtckpdfkobdgjeaaGreatDoorHReqAll
import Derived.Test.YtckpdfkobdgjeaaGreatDoorHAny
import Derived.Test.YtckpdfkobdgjeaaGreatDoorHRunsAll
import Derived.Test.YtckpdfkobdgjeaaGreatDoorHTreeAll
namespace Go.Proofs.YtckpdfkobdgjeaaGreatDoor
set_option maxRecDepth 100000
set_option maxHeartbeats 4000000
open Go.RowKit
open Go.RowKit Go.Shelf
attribute [local go_sem] Oper.semAt_some
open Go.RowKit Go.Shelf
structure Bk where
 id:Int
 rq:Rq
 ba:Option Addr
 bn:Nat
 bc:Nat
 bs:zd
abbrev zB (x:Bk):Array Value:=#[.int .i64 x.id,.int .i64 x.rq.queue,.int .i64 x.rq.fr,.int .i64 x.rq.un,.int .i64 x.rq.kind,.slice x.rq.pa x.rq.pn x.rq.pc,.slice x.ba x.bn x.bc]
abbrev BL:=List Bk
def bk (l:BL) (i:Nat):Bk:=l.getD i ⟨0,⟨0,0,0,0,none,0,0,[]⟩,none,0,0,[]⟩
structure BksIn (w:World) (a:Option Addr) (n cap:Nat) (l:BL):Prop where
 len:n=l.length
 le:n<=cap
 capb:cap<=9223372036854775807
 cells:0<n->∃ b off,a=zO b off/\∀ i,i<n->w.cell? (zA b (off+i*7))=some (zI (bk l i).id)/\w.cell? (zA b (off+i*7+1))=some (zI (bk l i).rq.queue)/\w.cell? (zA b (off+i*7+2))=some (zI (bk l i).rq.fr)/\w.cell? (zA b (off+i*7+3))=some (zI (bk l i).rq.un)/\w.cell? (zA b (off+i*7+4))=some (zI (bk l i).rq.kind)/\w.cell? (zA b (off+i*7+5))=some (.slice (bk l i).rq.pa (bk l i).rq.pn (bk l i).rq.pc)/\w.cell? (zA b (off+i*7+6))=some (.slice (bk l i).ba (bk l i).bn (bk l i).bc)
 rqs:∀ i,i<n->zH w (bk l i).rq
 bites:∀ i,i<n->RunsIn w (bk l i).ba (bk l i).bn (bk l i).bc (bk l i).bs
theorem BksIn.later {w w':World} {a:Option Addr} {n cap:Nat} {l:BL} (h:BksIn w a n cap l) (c:Below w.heap.size w w'):BksIn w' a n cap l:=by
 refine ⟨h.len,h.le,h.capb,fun k=>?_,fun i d=>(h.rqs i d).later c,fun i d=>(h.bites i d).later c⟩;obtain ⟨b,m,g,j⟩:=h.cells k;refine ⟨b,m,g,fun i d=>?_⟩;obtain ⟨e,c1,c2,c3,c4,c5,f⟩:=j i d;exact ⟨cell_later c e,cell_later c c1,cell_later c c2,cell_later c c3,cell_later c c4,cell_later c c5,cell_later c f⟩
theorem Uo (w:World) (x:Bk):∀ X:World,Below (w.alloc (.cells #[zI x.id,zI x.rq.queue,zI x.rq.fr,zI x.rq.un,zI x.rq.kind,.slice x.rq.pa x.rq.pn x.rq.pc,.slice x.ba x.bn x.bc] 60)).heap.size (w.alloc (.cells #[zI x.id,zI x.rq.queue,zI x.rq.fr,zI x.rq.un,zI x.rq.kind,.slice x.rq.pa x.rq.pn x.rq.pc,.slice x.ba x.bn x.bc] 60)) X->X.cell? (zA w.heap.size 0)=some (zI x.id)/\X.cell? (zA w.heap.size 1)=some (zI x.rq.queue)/\X.cell? (zA w.heap.size 2)=some (zI x.rq.fr)/\X.cell? (zA w.heap.size 3)=some (zI x.rq.un)/\X.cell? (zA w.heap.size 4)=some (zI x.rq.kind)/\X.cell? (zA w.heap.size 5)=some (.slice x.rq.pa x.rq.pn x.rq.pc)/\X.cell? (zA w.heap.size 6)=some (.slice x.ba x.bn x.bc) :=
 fun X a=>⟨cell_later a (by go_simp),cell_later a (by go_simp),cell_later a (by go_simp),cell_later a (by go_simp),cell_later a (by go_simp),cell_later a (by go_simp),cell_later a (by go_simp)⟩
def ZZ (l:QL) (x:Bk):Int:=if yI l x.rq=0 then (if meets x.rq x.bs=true then 0 else 1) else yI l x.rq
theorem Qw (w:World) (a:Option Addr) (n cap:Nat) (l:QL) (y:QsIn w a n cap l) (x:Bk) (q:zH w x.rq) (v:RunsIn w x.ba x.bn x.bc x.bs) :
 zC 129 #[.slice a n cap,.agg #[zI x.id,zI x.rq.queue,zI x.rq.fr,zI x.rq.un,zI x.rq.kind,.slice x.rq.pa x.rq.pn x.rq.pc,.slice x.ba x.bn x.bc]] w fun e w'=>e=.returned (zI (ZZ l x))/\Below w.heap.size w w':=by
 have g:=zh ((Below.refl w.heap.size w).alloc (Nat.le_refl _) (.cells (zB x) 60));have A:=zh (Uo w x);have c:=WD _ a n cap l (y.later g.o) x.rq (q.later g.o);have s:=zh fun X (u:zL w X)=>Kc X x.rq (q.later u) x.ba x.bn x.bc x.bs (v.later u);clear y q v;by_cases b:yI l x.rq=0
 ·rw [b] at c;have i:=zh c;have f:ZZ l x=if meets x.rq x.bs=true then 0 else 1:=if_pos b;rw [f];clear b f c;obtain ⟨m,p⟩:=qA (meets x.rq x.bs);rw [p] at s;rw [p];clear p;go_enter Tryz.func129,Tryz.ntmps129;go_wp2_with fail
  refine i.o.mono ?_;rintro e r ⟨rfl,d⟩;obtain ⟨B,c1,c2,c3,c4,c5,C⟩:=A.o r d;have h:=zh (za g.o d);clear d;cases m
  all_goals
   go_wp2_with fail
   refine (s.o r h.o).mono ?_;rintro e E ⟨rfl,t⟩;have z:=zh (za h.o t);clear t;go_wp2;go_ret;exact ⟨rfl,z.o⟩
 ·have f:ZZ l x=yI l x.rq:=if_neg b;rw [f];obtain ⟨j,k⟩:=qA (yI l x.rq);rw [k] at c b;rw [k];have D:(j != 0)=true:=by simp [b]
  have i:=zh c;clear f c b k;go_enter Tryz.func129,Tryz.ntmps129;go_wp2_with fail
  refine i.o.mono ?_;rintro e r ⟨rfl,d⟩;have h:=zh (za g.o d);clear d;go_wp2;go_ret;exact ⟨rfl,h.o⟩
theorem MJ (w:World) (a:Option Addr) (n cap:Nat) (l:QL) (f:QsIn w a n cap l) (x:Bk) (z:zH w x.rq) (b:RunsIn w x.ba x.bn x.bc x.bs) (p m:Nat) (e:Int) (y:w.cell? (zA p 0)=some (.slice a n cap)) (u:w.cell? (zA m 0)=some (zI e)) :
 zC 128 #[.agg #[zI x.id,zI x.rq.queue,zI x.rq.fr,zI x.rq.un,zI x.rq.kind,.slice x.rq.pa x.rq.pn x.rq.pc,.slice x.ba x.bn x.bc],.pointer (zO p 0),.pointer (zO m 0)] w fun r w'=>r=.returned (.bool (decide (ZZ l x=e)))/\Below w.heap.size w w':=by
 have k:=zh ((Below.refl w.heap.size w).alloc (Nat.le_refl _) (.cells (zB x) 60));have E:=zh (Uo w x);have t:=zh fun X (s:zL w X)=>Qw X a n cap l (f.later s) x (z.later s) (b.later s);have D:=zh y;have B:=zh u;obtain ⟨C,q⟩:=qA (ZZ l x);rw [q] at t;rw [q];clear f z b y u q;go_enter Tryz.func128,Tryz.ntmps128;go_wp2_with fail
 refine zV ((Tryz.f128.body.bind fun c=>yi c 1).getD #[]) (by kernel_rfl) [zl (.slice a n cap),zl (.agg (zB x)),zl (zI C),zl (zI e),zl (.bool (decide (C=e))),zl (.bool (decide (C=e)))] [] (by kernel_rfl) (by kernel_rfl) (by kernel_rfl) ?hg ?hstep ?hfin
 case hg =>
  intro g hg v w h;cases hg
 case hstep =>
  refine zc.cons 1 rfl ?_ ?_
  ·intro T w' b f i;have j:T.getD 1 undef=.pointer (zO p 0):=f 1;have F:=cell_later (za k.o b) D.o;exact zs (by go_simp) rfl
  refine zc.cons 2 rfl ?_ ?_
  ·intro T w' b f i;have j:T.getD 3 undef=.pointer (zO w.heap.size 0):=f 3;obtain ⟨M,c1,c2,c3,c4,c5,N⟩:=E.o w' b;exact zs (by go_simp) rfl
  refine zc.cons 3 rfl ?_ ?_
  ·intro T w' b f i;have j:T.getD 5 undef=_:=i 0 5;have I:T.getD 6 undef=_:=i 1 6;refine Or.inr ⟨129,#[.slice a n cap,.agg (zB x)],by go_simp,?_⟩;refine (t.o w' (za k.o b)).mono ?_;rintro e P ⟨rfl,J⟩;exact ⟨_,rfl,rfl,J⟩
  refine zc.cons 4 rfl ?_ ?_
  ·intro T w' b f i;have j:T.getD 2 undef=.pointer (zO m 0):=f 2;have F:=cell_later (za k.o b) B.o;exact zs (by go_simp) rfl
  refine zc.cons 5 rfl ?_ ?_
  ·intro T w' b f i;have j:T.getD 7 undef=_:=i 2 7;have I:T.getD 8 undef=_:=i 3 8;have O:(C==e)=decide (C=e):=(by rw [Bool.eq_iff_iff];simp);exact zs (by go_simp) rfl
  refine zc.cons 6 rfl ?_ ?_
  ·intro T w' b f i;have j:T.getD 9 undef=_:=i 4 9;exact zs (by go_simp) rfl
  exact trivial
 case hfin =>
  intro T w' b L f i;have G:T.getD 4 undef=.bool (decide (C=e)):=i 5 4;rw [yb [true,true,true,true,false,false,false,false,false,false] (by kernel_rfl) L @f];obtain ⟨us,A⟩:∃ us:Nat->Value,(fun d=>T.getD d undef)=us:=⟨_,rfl⟩;rw [A];have H:us 4=.bool (decide (C=e)):=by rw [<-A];exact G
  simp only [xj,H];go_wp2;go_ret;exact ⟨rfl,za k.o b⟩
theorem OH (d:Nat) (C:Array Value) (p:Bk->Bool) (Q:∀ (args:Array Value) (w:World),(callFunc d args).run Tryz.prog w=.ok (.enter d args) w) (w:World) (a:Option Addr) (n cap:Nat) (l:BL) (h:BksIn w a n cap l)
 (G:∀ w',Below w.heap.size w w'->∀ x:Bk,zH w' x.rq->RunsIn w' x.ba x.bn x.bc x.bs->zC d (#[.agg #[zI x.id,zI x.rq.queue,zI x.rq.fr,zI x.rq.un,zI x.rq.kind,.slice x.rq.pa x.rq.pn x.rq.pc,.slice x.ba x.bn x.bc]]++C) w' fun e L=>e=.returned (.bool (!p x))/\Below w'.heap.size w' L) :
 zC 83 #[.slice a n cap,.func (.func d) #[] C] w fun e w'=>∃ r:Int,e=.returned (zI r)/\(decide (0<=r))=(!zQ (fun i=>p (bk l i)) n)/\Below w.heap.size w w':=by
 have N:=zh h.len;have R:=h.le;have O:=h.capb;have I:=zh h.cells;have J:=zh G;have z:=zh h;clear G h;go_enter Tryz.func83,Tryz.ntmps83;go_wp2;go_loopw [5,8] (fun _ v wr=>∃ k:Nat,v=zI k/\k<=n/\zQ (fun i=>p (bk l i)) k=true/\zL w wr) (fun _ v _=>n-(intOf v).toNat)
 case atStart=>exact ⟨0,rfl,by omega,rfl,Below.refl _ _⟩
 case round =>
  obtain ⟨j,rfl,P,D,E⟩:=hrel;have y:=zh D;have c:=zh E;clear D E;by_cases m:j<n
  ·have S:(j:Int)<n:=(by omega);obtain ⟨b,U,rfl,F⟩:=I.o (by omega);obtain ⟨s,c1,c2,c3,c4,c5,t⟩:=F j m
   replace s:=cell_later c.o s
   replace c1:=cell_later c.o c1
   replace c2:=cell_later c.o c2
   replace c3:=cell_later c.o c3
   replace c4:=cell_later c.o c4
   replace c5:=cell_later c.o c5
   replace t:=cell_later c.o t
   clear F;have q:=J.o wr c.o (bk l j) ((z.o.rqs j m).later c.o) ((z.o.bites j m).later c.o);obtain ⟨X,u⟩:=qA (bk l j);rw [u] at q s c1 c2 c3 c4 c5 t;have B:=zh u;have A:=zh q;clear u q;cases g:p X with
   | false =>
    go_wp2_with fail
    refine A.o.mono ?_;rintro e M ⟨rfl,f⟩;rw [g];go_wp2;go_ret;exact ⟨_,rfl,by rw [yO (p:=fun i=>p (bk l i)) (k:=j) (by rw [B.o];exact g) n m];simp,za c.o f⟩
   | true =>
    go_wp2_with fail
    refine A.o.mono ?_;rintro e M ⟨rfl,f⟩;have H:=zh f;clear f;rw [g];go_wp2;go_roundw
    case rel=>exact ⟨j+1,by go_num,by omega,by rw [zQ,y.o,B.o,g];rfl,za c.o H.o⟩
    case measure=>simp [intOf];omega
  obtain rfl:j=n:=by omega
  go_wp2;go_ret;exact ⟨_,rfl,by rw [y.o];rfl,c.o⟩
theorem WE (b:Nat) (c:Array Value) (p:Bk->Bool) (m:∀ (args:Array Value) (w:World),(callFunc b args).run Tryz.prog w=.ok (.enter b args) w) (w:World) (a:Option Addr) (n cap:Nat) (l:BL) (h:BksIn w a n cap l)
 (d:∀ w',Below w.heap.size w w'->∀ x:Bk,zH w' x.rq->RunsIn w' x.ba x.bn x.bc x.bs->zC b (#[.agg #[zI x.id,zI x.rq.queue,zI x.rq.fr,zI x.rq.un,zI x.rq.kind,.slice x.rq.pa x.rq.pn x.rq.pc,.slice x.ba x.bn x.bc]]++c) w' fun e q=>e=.returned (.bool (!p x))/\Below w'.heap.size w' q) :
 zC 48 #[.slice a n cap,.func (.func b) #[] c] w fun e w'=>e=.returned (.bool (!zQ (fun i=>p (bk l i)) n))/\Below w.heap.size w w':=by
 have g:=zh d;clear d;go_enter Tryz.func48,Tryz.ntmps48;go_wp2_with fail
 refine (OH b c p m w a n cap l h g.o).mono ?_;rintro e s ⟨r,rfl,f,k⟩;have j:=zh f;clear f;go_wp2;go_ret;exact ⟨zm j.o,k⟩
def Uc (l:QL) (b:BL) (e:Int):Bool:=zQ (fun i=>!decide (ZZ l (bk b i)=e)) b.length
def ers (k:Nat):Int:=[7,2,6,3,1].getD k 0
def Z4 (l:QL) (b:BL):Nat->Nat->Int
 | _,0=>0
 | k,m+1=>if Uc l b (ers k)=true then Z4 l b (k+1) m else ers k
def wS (l:QL) (b:BL):Int:=if z9 l=0 then (if b.length<=12 then Z4 l b 0 5 else 2) else z9 l
theorem S6 (w:World) (a:Option Addr) (n cap:Nat) (l:QL) (A:QsIn w a n cap l) (ba:Option Addr) (bn bc:Nat) (b:BL) (d:BksIn w ba bn bc b) :
 zC 80 #[.slice a n cap,.slice ba bn bc] w fun e w'=>e=.returned (zI (wS l b))/\Below w.heap.size w w':=by
 have C:=zh ((Below.refl w.heap.size w).alloc (Nat.le_refl _) (.cells #[.slice a n cap] 37));have j:=wF _ a n cap l (A.later C.o);have F:(w.alloc (.cells #[.slice a n cap] 37)).cell? (zA w.heap.size 0)=some (.slice a n cap):=by go_simp
 have ao:=zh F;have aC:=d.le;have aB:=d.capb;have D:=zh d.len;by_cases f:z9 l=0
 ·have B:wS l b=if b.length<=12 then Z4 l b 0 5 else 2:=if_pos f;rw [B];rw [f] at j;have E:=zh j;clear B j f;by_cases G:b.length<=12
  ·rw [if_pos G];have av:¬(12:Int)<bn:=(by have:=D.o;omega);have au:=zh fun X (hX:zL w X) (cl:X.cell? ⟨w.heap.size,0,none⟩=some (.slice a n cap)) (Be:Nat) (e:Int) (z:X.cell? ⟨Be,0,none⟩=some (zI e)) =>
    WE 128 #[.pointer (zO w.heap.size 0),.pointer (zO Be 0)] (fun x=>!decide (ZZ l x=e)) (fun args w=>by go_simp) X ba bn bc b (d.later hX)
     (fun w' ab x az aw=>(MJ w' a n cap l (A.later (za hX ab)) x az aw w.heap.size Be e (cell_later ab cl) (cell_later ab z)).mono fun r aF q=>⟨by rw [q.1];simp,q.2⟩)
   obtain ⟨g,U⟩:=qA (Z4 l b 0 5);rw [U];have ah:=zh U;clear A d G U F;go_enter Tryz.func80,Tryz.ntmps80;go_wp2_with fail
   refine E.o.mono ?_;rintro e s ⟨rfl,c⟩;have t:=zh (za C.o c);have ap:=zh (cell_later c ao.o);clear c;go_wp2_with fail
   obtain ⟨v,H⟩:=qB (s.alloc (.cells #[zI 7,zI 2,zI 6,zI 3,zI 1] 28));have W:zL s v:=(by rw [H];exact zr _ _);have ag:Zh (∀ k,k<5->v.cell? (zA s.heap.size k)=some (zI (ers k))):=by
    intro k aa;rw [H]
    match k,aa with
    | 0,_=>go_simp;rfl
    | 1,_=>go_simp;rfl
    | 2,_=>go_simp;rfl
    | 3,_=>go_simp;rfl
    | 4,_=>go_simp;rfl
    | k+5,aa=>omega
   rw [<-H];have N:=zh (za t.o W);have aq:=zh (cell_later W ap.o);obtain ⟨ae,V⟩:=qA (s.heap.size);rw [V] at ag;rw [V];clear W H V;go_loopw [7,18] (fun _ ad wr=>∃ k:Nat,ad=zI k/\k<=5/\Z4 l b 0 5=Z4 l b k (5-k)/\zL v wr) (fun _ ad _=>5-(intOf ad).toNat)
   case atStart=>exact ⟨0,rfl,by omega,rfl,Below.refl _ _⟩
   obtain ⟨k,rfl,aa,am,al⟩:=hrel;have O:=zh am;have h:=zh al;clear am al;by_cases ax:k<5
   ·have aD:(k:Int)<5:=(by omega);have R:=cell_later h.o (ag.o k ax);obtain ⟨e,Y⟩:=qA (ers k);rw [Y] at R;have ar:=zh Y;clear Y;obtain ⟨y,I⟩:=qB (wr.alloc (.cells #[zI e] 28));have J:zL wr y:=(by rw [I];exact zr _ _);have z:y.cell? (zA wr.heap.size 0)=some (zI e):=(by rw [I];go_simp);have u:=au.o y (za (za N.o h.o) J) (cell_later J (cell_later h.o aq.o)) wr.heap.size e z;rw [D.o,show zQ (fun i=>!decide (ZZ l (bk b i)=e)) b.length=Uc l b e from rfl] at u;have P:Zh (Z4 l b k (5-k)=if Uc l b e=true then Z4 l b (k+1) (5-(k+1)) else e):=by
     show Z4 l b k (5-k)=_;obtain ⟨m,ay⟩:∃ m,5-k=m+1:=⟨5-k-1,by omega⟩;rw [ay,Z4,ar.o,show 5-(k+1)=m from by omega]
    obtain ⟨Q,ak⟩:=qA (Uc l b e);rw [ak] at u P;have af:=zh J;have aj:=zh I;have an:=zh z;rw [<-D.o] at u;have ai:=zh u;clear ak u J I z;cases Q with
    | false =>
     go_wp2_with fail
     rw [<-aj.o];refine ai.o.mono ?_;rintro r aA ⟨rfl,p⟩;have M:=zh (za (za (za N.o h.o) af.o) p);have c4:=cell_later p an.o;clear p R;have L:Zh (e=g):=(by show e=g;rw [<-ah.o,O.o,P.o];rfl);go_wp2;go_ret;rw [<-L.o];exact ⟨rfl,M.o⟩
    | true =>
     go_wp2_with fail
     rw [<-aj.o];refine ai.o.mono ?_;rintro r aA ⟨rfl,p⟩;have M:=zh (za (za h.o af.o) p);clear p R;go_wp2;go_roundw
     case rel=>exact ⟨k+1,by go_num,by omega,by rw [O.o,P.o];rfl,M.o⟩
     case measure=>simp [intOf];omega
   obtain rfl:k=5:=(by omega);have L:Zh (0=g):=(by show 0=g;rw [<-ah.o,O.o];rfl);go_wp2;go_ret;rw [<-L.o];exact ⟨rfl,za N.o h.o⟩
  rw [if_neg G];have av:(12:Int)<bn:=by have:=D.o;omega
  clear A d G F;go_enter Tryz.func80,Tryz.ntmps80;go_wp2_with fail
  refine E.o.mono ?_;rintro e s ⟨rfl,c⟩;have t:=zh (za C.o c);clear c;go_wp2;go_ret;exact ⟨rfl,t.o⟩
 ·have B:wS l b=z9 l:=if_neg f;rw [B];obtain ⟨S,Z⟩:=qA (z9 l);rw [Z] at j f;rw [Z];have aE:(S != 0)=true:=by simp [f]
  have E:=zh j;clear B j f Z A d F;go_enter Tryz.func80,Tryz.ntmps80;go_wp2_with fail
  refine E.o.mono ?_;rintro e s ⟨rfl,c⟩;have t:=zh (za C.o c);clear c;go_wp2;go_ret;exact ⟨rfl,t.o⟩
def IL (r:Rq) (b:zd) (i:Nat):Int:=rN r.ps (zp b i).toNat
def wh (f:zd) (x:Bk):Nat->zd
 | 0=>f
 | k+1=>(yV (wh f x k) (rN x.bs k) (rN x.bs k+lenOf x.rq x.bs k) (IL x.rq x.bs k)).1
theorem YC {r:Rq} {b:zd} (h:meets r b=true) {k:Nat} (i:k<b.length):0<=zp b k/\zp b k<r.ps.length/\0<=rN b k/\rN b k+lenOf r b k<=48/\1<=lenOf r b k/\lenOf r b k<=24/\1<=IL r b k/\IL r b k<=50:=by
 obtain ⟨a,m,g⟩:=yk.1 h;obtain ⟨c,f,_⟩:=wm (g k i);have j:=wR f;have l:=Zi c;have d:=Xm a c;have e:=yh a (k:=(zp b k).toNat) (by omega);have n:=xA a;exact ⟨by omega,by omega,by omega,by omega,d.1,d.2,e.2.2.1,e.2.2.2⟩
theorem RB {r:Rq} {b:zd} (h:meets r b=true):0<b.length:=by
 obtain ⟨a,c,d⟩:=yk.1 h;have:=YM a;omega
theorem Ho (w:World) (a:Option Addr) (n cap:Nat) (f:zd) (ai:RunsIn w a n cap f) (x:Bk) (q:zH w x.rq) (l:RunsIn w x.ba x.bn x.bc x.bs) (s:meets x.rq x.bs=true) :
 zC 82 #[.slice a n cap,.agg #[zI x.id,zI x.rq.queue,zI x.rq.fr,zI x.rq.un,zI x.rq.kind,.slice x.rq.pa x.rq.pn x.rq.pc,.slice x.ba x.bn x.bc]] w fun e w'=>∃ d m j,e=.returned (.slice d m j)/\RunsIn w' d m j (wh f x x.bs.length)/\Below w.heap.size w w'/\∀ b p,d=zO b p->w.heap.size<=b:=by
 have au:=zh l.len;have ay:=zh q.len;have aI:=l.le;have aH:=l.capb;have aN:=RunsIn.le q;have aM:=RunsIn.capb q;have N:0<x.bn:=by rw [l.len];exact RB s
 have am:0<x.rq.pn:=by have:=YC s (k:=0) (RB s);have:=q.len;omega
 obtain ⟨C,aA,H,I⟩:=l.cells N;obtain ⟨R,aC,P,Q⟩:=RunsIn.cells q am;have U:=zh I;have V:=zh Q;have ar:=zh fun k (aj:k<x.bn)=>YC s (k:=k) (by rw [<-l.len];exact aj);have av:=zh ai;have g:=zh ((Below.refl w.heap.size w).alloc (Nat.le_refl _) (.cells #[zI x.id,zI x.rq.queue,zI x.rq.fr,zI x.rq.un,zI x.rq.kind,.slice x.rq.pa x.rq.pn x.rq.pc,.slice x.ba x.bn x.bc] 60));have y:=zh (Uo w x);have aF:C<w.heap.size:=block_lt_of_cell (I 0 N).1;have aK:R<w.heap.size:=block_lt_of_cell (Q 0 am).1;rw [H,P] at y g;rw [H,P];rw [<-au.o];clear ai q l s I Q H P;go_enter Tryz.func82,Tryz.ntmps82;go_wp2_with fail
 obtain ⟨W0,A⟩:=qA (w.alloc (.cells #[zI x.id,zI x.rq.queue,zI x.rq.fr,zI x.rq.un,zI x.rq.kind,.slice (some ⟨R,aC,none⟩) x.rq.pn x.rq.pc,.slice (some ⟨C,aA,none⟩) x.bn x.bc] 60));rw [A] at y g;rw [A];obtain ⟨D,c1,c2,c3,c4,c5,E⟩:=y.o W0 (Below.refl _ _);have aO:w.heap.size+1<=W0.heap.size:=by rw [<-A];simp
 clear A;go_wp2_with fail
 go_loopw [0,11] (fun v S wr=>∃ (k:Nat) (d:Option Addr) (m j:Nat),S=zI k/\k<=x.bn/\v=.slice d m j/\RunsIn wr d m j (wh f x k)/\(0<k->∀ b p,d=zO b p->w.heap.size<=b)/\Below W0.heap.size W0 wr) (fun _ S _=>x.bn-(intOf S).toNat)
 case atStart=>exact ⟨0,a,n,cap,rfl,by omega,rfl,av.o.later g.o,fun h=>by omega,Below.refl _ _⟩
 case round =>
  clear D c1 c2 c3 c4 c5 E;obtain ⟨k,d,m,j,rfl,aj,rfl,ae,ak,J⟩:=hrel;have W:=zh ae;have aw:=zh ak;have i:=zh J;have aP:W0.heap.size<=wr.heap.size:=J.size;clear ae ak J;obtain ⟨D,c1,c2,c3,c4,c5,E⟩:=y.o wr i.o;by_cases O:k<x.bn
  ·have aJ:(k:Int)<x.bn:=(by omega);have r:=ar.o k O;obtain ⟨c,z⟩:∃ c:Nat,zp x.bs k=c:=⟨(zp x.bs k).toNat,by omega⟩;have ad:c<x.rq.pn:=(by have:=ay.o;omega);have aE:(c:Int)<x.rq.pn:=(by omega);have Y:=cell_later (za g.o i.o) (U.o k O).1;have Z:=cell_later (za g.o i.o) (U.o k O).2;have ao:=cell_later (za g.o i.o) (V.o c ad).1;have ap:=cell_later (za g.o i.o) (V.o c ad).2;have F:lenOf x.rq x.bs k=zp x.rq.ps c:=(by rw [lenOf,z,Int.toNat_natCast]);have G:IL x.rq x.bs k=rN x.rq.ps c:=(by rw [IL,z,Int.toNat_natCast]);have u:Zh (wh f x (k+1)=(yV (wh f x k) (rN x.bs k) (rN x.bs k+zp x.rq.ps c) (rN x.rq.ps c)).1):=(by show wh f x (k+1)=_;rw [wh,F,G]);rw [F,G] at r;rw [z] at Y r;obtain ⟨L,aa⟩:=qA (zp x.rq.ps c);obtain ⟨M,ab⟩:=qA (rN x.rq.ps c);obtain ⟨t,an⟩:=qA (rN x.bs k);rw [aa] at r u ao;rw [ab] at r u ap;rw [an] at r u Z;clear aa ab an F G z;have aL:R<wr.heap.size:=(by omega);have aG:C<wr.heap.size:=(by omega);have aQ:w.heap.size<wr.heap.size:=(by omega);go_wp2_with fail
   have B:Below wr.heap.size wr ((wr.alloc (.cells #[zI c,zI t] 62)).alloc (.cells #[zI L,zI M] 64)):=((Below.refl _ wr).alloc (Nat.le_refl _) _).alloc (by simp) _;refine (OC _ d m j (wh f x k) t (t+L) M (W.o.later B)).mono ?_;rintro e aR ⟨X,aB,aD,rfl,af,ag,al⟩;have az:=zh af;have ah:=za B ag;have aq:=zh (za i.o ah);have ax:Zh (∀ b p,X=zO b p->w.heap.size<=b):=fun b p e=>by have:=al b p e;have:=B.size;omega
   clear af ag al B ah D c1 c2 c3 c4 c5 E Y Z ao ap;go_wp2;go_roundw
   case rel=>exact ⟨k+1,X,aB,aD,by go_num,by omega,rfl,by rw [u.o];exact az.o,fun _=>ax.o,aq.o⟩
   case measure=>simp [intOf];omega
  obtain rfl:k=x.bn:=by omega
  go_wp2;go_ret;exact ⟨_,_,_,rfl,W.o,za g.o i.o,aw.o N⟩
abbrev QN (N:Nat):={ x:Int // 0<=x/\x<N }
theorem Fu (F:Fence) (n:Nat) (Z:F.fn 130) (an:F.round=none) (hn:1<=n) (O z j y b h c cap:Nat) (l:QL) (q:Int) (H:Right l) (G:c=l.length) (am:q<c) (g C:List (QN c)->World->Prop)
 (ag:∀ a x d,g a d->a.length<5->YieldAt F (n-1) Tryz.prog O #[zI x.1] d fun e f =>
  (e=.returned (.bool true)/\g (a++[x]) f/\YO y j d f)\/(e=.returned (.bool false)/\C (a++[x]) f))
 (d:World) (ap:d.cell? (zA z 0)=some (zI q)) (aa:Boxed d j 37 (.slice (zO b h) c cap)) (ah:b<y)
 (L:∀ i,i<c->d.cell? (zA b (h+i*3+1))=some (zI (qu l i).parent)) (Y:g [] d) :
 CallsIn F n Tryz.prog 130 #[.func (.yield O) #[] #[],.pointer (zO z 0),.pointer (zO j 0)] d fun e f=>(∃ v,e=.returned v) /\
  ((∃ Q:List (QN c),Q.map (·.1)=zK l q/\g Q f)\/(∃ a:List (QN c),True/\C a f)):=by
 have B:=zh H;have A:=zh G;have U:=zh L;clear H G L;refine callsIn_of_wp Tryz.func130 rfl Z ?_ an;simp only [Tryz.ntmps130,List.size_toArray,List.length_cons,List.length_nil,Nat.reduceAdd,Nat.reduceSub,Array.replicate_succ,Array.replicate_zero,List.push_toArray,List.append_toArray,List.nil_append,List.cons_append]
 gi_wp2
 gi_loopw [4] (fun p wr=>∃ (a:List (QN c)) (x:Int),p=zI x/\x<c/\a.map (·.1)++zK l x=zK l q/\Boxed wr j 37 (.slice (zO b h) c cap)/\Below y d wr/\g a wr)
  (fun p _=>(intOf p+1).toNat)
 case atStart=>exact ⟨[],q,rfl,am,rfl,aa,Below.refl _ _,Y⟩
 case round =>
  obtain ⟨a,x,rfl,aq,M,ai,I,E⟩:=hrel;have s:=zh M;have R:=zh I;clear M I;by_cases r:0<=x
  ·obtain ⟨P,rfl⟩:=Int.eq_ofNat_of_zero_le r;have ae:P<c:=(by omega);have t:(P:Int)<c:=(by omega);have al:=B.o.par P (by have:=A.o;omega);have k:=zh (Y8 B.o (q:=(P:Int)) (by omega) (by have:=A.o;omega));rw [Int.toNat_natCast] at k;have aj:a.length<5:=by
    have D:=WY l q;rw [<-s.o,k.o] at D;simp at D;omega
   obtain ⟨m,w⟩:=qA ((qu l P).parent);have W:=zh w;rw [w] at al k;clear w;obtain ⟨fn,tmps,assign,body,ar,af⟩:=ag a ⟨(P:Int),r,t⟩ wr E aj
   gi_wp2
   refine af.mono ?_;rintro e X (⟨rfl,ab,N⟩ | ⟨rfl,ad⟩)
   ·have J:=N.2 _ ai;have u:=R.o.trans N.1;have c1:X.cell? (zA b (h+P*3+1))=some (zI m):=(u.cell (p:=(zA b (h+P*3+1))) ah).trans (by rw [U.o P ae,W.o]);have ao:=J.cell;have S:=zh u;clear u
    gi_wp2
    go_roundw
    case rel=>exact ⟨a++[⟨(P:Int),r,t⟩],m,rfl,by omega,by rw [<-s.o,k.o];simp,J,S.o,ab⟩
    case measure=>simp [intOf];omega
   gi_wp2
   refine bodyPost_ret (results_none rfl _ _ _) rfl ?_;exact ⟨⟨_,rfl⟩,.inr ⟨a++[⟨(P:Int),r,t⟩],trivial,ad⟩⟩
  have ak:=WZ (l:=l) (q:=x) (by omega);have V:Zh (a.map (·.1)=zK l q):=by have:=s.o;rw [ak,List.append_nil] at this;exact this
  gi_wp2
  go_end0
  exact ⟨⟨_,rfl⟩,.inl ⟨a,V.o,E⟩⟩
theorem Py (F:Fence) (n:Nat) (t:F.fn 130) (D:F.round=none) (hn:1<=n) (d c e b f a cap:Nat) (l:QL) (q:Int) (v:Right l) (u:a=l.length) (C:q<a) (w:World)
 (j:Boxed w d 3 (zI q)) (h:Boxed w c 37 (.slice (zO b f) a cap)) (B:e<=w.heap.size) (k:b<e)
 (z:∀ i,i<a->w.cell? (zA b (f+i*3+1))=some (zI (qu l i).parent)) :
 SeqStopsK F n Tryz.prog 130 #[.pointer (zO d 0),.pointer (zO c 0)] (fun x:QN a=>#[Value.int .i64 x.1]) (YO e c) (fun G=>G.map (·.1)=zK l q) (fun _=>True) 5 w:=fun E m o r g _ _ y s =>
 Fu F n t D hn E d c e b f a cap l q v u C m o y r ((g.cell (p:=(zA d 0)) j.lt).trans j.cell) ((g.block c h.lt).trans h) k
  (fun i A=>(g.cell (p:=(zA b (f+i*3+1))) (Nat.lt_of_lt_of_le k B)).trans (z i A)) s
theorem RunsIn.grown {X g:World} {row:Option Nat} {a:Option Addr} {n cap:Nat} {l:zd} (h:RunsIn X a n cap l) (hg:X.grownBy g row) (u:∀ r,row=some r->∃ o:Obj,X.heap[r]?=some o/\o.isCells=false):RunsIn g a n cap l:=by
 refine ⟨h.len,h.le,h.bound,h.capb,fun d=>?_⟩;obtain ⟨b,f,q,c⟩:=h.cells d;have s:b<X.heap.size:=block_lt_of_cell (c 0 d).1;have t:some b≠row:=by
  intro e;obtain ⟨o,m,p⟩:=u b e.symm;have j:=(c 0 d).1;simp only [World.cell?,m] at j;cases o with
  | cells=>cases p
  | _=>simp at j
 have e:=hg.block b s t;exact ⟨b,f,q,fun i k=>⟨(World.cell?_of_block (w:=X) (a:=(zA b (f+i*2))) e).trans (c i k).1,(World.cell?_of_block (w:=X) (a:=(zA b (f+i*2+1))) e).trans (c i k).2⟩⟩
theorem RunsIn.blocks {w w':World} {a:Option Addr} {n cap:Nat} {l:zd} (h:RunsIn w a n cap l) (j:∀ b c,a=zO b c->w'.heap[b]?=w.heap[b]?):RunsIn w' a n cap l:=by
 refine ⟨h.len,h.le,h.bound,h.capb,fun k=>?_⟩;obtain ⟨b,c,d,f⟩:=h.cells k;have e:=j b c d;exact ⟨b,c,d,fun i g=>⟨(World.cell?_of_block (w:=w) (a:=(zA b (c+i*2))) e).trans (f i g).1,(World.cell?_of_block (w:=w) (a:=(zA b (c+i*2+1))) e).trans (f i g).2⟩⟩
structure Tk (W1 W:World) (G n:Nat) (T:Nat->zd):Prop where
 os:W.os=W1.os
 tape:W.tape=W1.tape
 output:W.output=W1.output
 size:W1.heap.size<=W.heap.size
 block:∀ k,k<W1.heap.size->k≠G->W.heap[k]?=W1.heap[k]?
 row:∃ v,W.rowIs G 25 n v/\∀ q,q<n->∃ a m c,v q=.slice a m c/\RunsIn W a m c (T q)/\∀ b off,a=zO b off->b≠G
theorem Tk.own {j:Type} {f:World} {d n B:Nat} {T:j->Nat->zd} (z:f.heap.size<=B) (A:d<f.heap.size):OwnFrom B (fun (s:j) l=>Tk f l d n (T s)):=by
 intro s X y row b hg g;obtain ⟨v,i,w⟩:=b.row;refine ⟨hg.os.trans b.os,hg.tape.trans b.tape,hg.output.trans b.output,Nat.le_trans b.size hg.size,
  fun k h u=>(hg.block k (Nat.lt_of_lt_of_le h b.size) (fun e=>by have:=(g k e.symm).1;omega)).trans (b.block k h u),v,
  i.of_block (hg.block d i.lt (fun e=>by have:=(g d e.symm).1;omega)),fun q x=>?_⟩
 obtain ⟨a,m,c,o,p,t⟩:=w q x;exact ⟨a,m,c,o,p.grown hg (fun r e=>(g r e).2),t⟩
theorem Tk.box {c b:World} {a n:Nat} {T:Nat->zd} (h:Tk c b a n T) {B t:Nat} {v:Value} (d:Boxed c B t v) (e:B≠a):Boxed b B t v:=(h.block B d.lt e).trans d
theorem Tk.later {g e f:World} {d n:Nat} {T:Nat->zd} (h:Tk g e d n T) (b:Below e.heap.size e f):Tk g f d n T:=by
 obtain ⟨v,i,s⟩:=h.row;refine ⟨b.os.trans h.os,b.tape.trans h.tape,b.output.trans h.output,Nat.le_trans h.size b.size,fun k p r=>(b.block k (by have:=h.size;omega)).trans (h.block k p r),v,i.of_block (b.block d i.lt),fun q t=>?_⟩;obtain ⟨a,m,c,j,l,o⟩:=s q t;exact ⟨a,m,c,j,l.later b,o⟩
theorem Tk.hit {l f:World} {d n:Nat} {T:Nat->zd} (h:Tk l f d n T) (j:Nat) {a:Option Addr} {m c:Nat} {g:zd} (w:RunsIn f a m c g) (p:∀ b i,a=zO b i->b≠d) :
 Tk l (f.setCell (zA d j) (.slice a m c)) d n (fun q=>if q=j then g else T q):=by
 obtain ⟨v,A,y⟩:=h.row;refine ⟨h.os,h.tape,h.output,by rw [show (f.setCell (zA d j) (.slice a m c)).heap.size=f.heap.size by simp [World.setCell]];exact h.size,
  fun k x hn=>(Below.heap_setCell _ _ _ k hn).trans (h.block k x hn),_,A.set j _,fun q z=>?_⟩
 by_cases e:q=j
 ·subst e;refine ⟨a,m,c,if_pos rfl,?_,p⟩;rw [if_pos rfl];exact w.blocks fun b i e=>Below.heap_setCell _ _ _ b (by simpa using p b i e)
 ·obtain ⟨r,B,s,t,u,o⟩:=y q z;refine ⟨r,B,s,by rw [if_neg e];exact t,?_,o⟩;rw [if_neg e];exact u.blocks fun b i e=>Below.heap_setCell _ _ _ b (by simpa using o b i e)
theorem Tk.congr {d c:World} {a n:Nat} {T b:Nat->zd} (h:Tk d c a n T) (e:∀ q,q<n->T q=b q):Tk d c a n b:=by
 obtain ⟨v,i,g⟩:=h.row;refine ⟨h.os,h.tape,h.output,h.size,h.block,v,i,fun q f=>?_⟩;rw [<-e q f];exact g q f
theorem Tk.below {b c:World} {a n B:Nat} {T:Nat->zd} (h:Tk b c a n T) (d:B<=a) (f:a<b.heap.size):Below B b c :=
 ⟨h.os,h.tape,h.output,h.size,fun k e=>h.block k (by omega) (by omega)⟩
theorem Tk.at {i e:World} {d n:Nat} {T:Nat->zd} (h:Tk i e d n T) {q:Nat} (f:q<n):∃ a m c,e.cell? (zA d q)=some (.slice a m c)/\e.frozen? (zA d q)=false/\RunsIn e a m c (T q)/\∀ b p,a=zO b p->b≠d:=by
 obtain ⟨v,g,o⟩:=h.row;obtain ⟨a,m,c,j,k,l⟩:=o q f;exact ⟨a,m,c,by rw [<-j];exact g.cell f,g.frozen q,k,l⟩
theorem Tk.from {a b d:World} {c n:Nat} {T:Nat->zd} (h:Tk b d c n T) (j:∀ k,k<a.heap.size->k≠c->b.heap[k]?=a.heap[k]?) (e:b.os=a.os) (f:b.tape=a.tape) (g:b.output=a.output) (i:a.heap.size<=b.heap.size):Tk a d c n T :=
 ⟨h.os.trans e,h.tape.trans f,h.output.trans g,Nat.le_trans i h.size,fun k l hn=>(h.block k (by omega) hn).trans (j k l hn),h.row⟩
def wZ (x:Bk) (T:Nat->zd):List Int->Nat->zd
 | []=>T
 | p::ps=>wZ x (fun q=>if q=p.toNat then wh (T p.toNat) x x.bs.length else T q) ps
theorem TG (x:Bk):∀ (a:List Int) (T:Nat->zd) (p:Int),wZ x T (a++[p])=fun q=>if q=p.toNat then wh (wZ x T a p.toNat) x x.bs.length else wZ x T a q
 | [],T,p=>rfl
 | y::a,T,p=>by rw [List.cons_append,wZ,TG x a _ p];rfl
def zM (l:QL) (b:BL):Nat->Nat->zd
 | 0=>fun _=>[(0,0)]
 | j+1=>wZ (bk b j) (zM l b j) (zK l (bk b j).rq.queue)
theorem Tryz.info47:(Tryz.prog.info? 25).map (fun i=>(i.zero,i.size,i.bytes))=some (some zN,1,24):=by kernel_rfl
theorem XU {l:QL} {b:BL} (h:wS l b=0):z9 l=0/\b.length<=12/\∀ i,i<b.length->ZZ l (bk b i)=0:=by
 unfold wS at h;by_cases c:z9 l=0
 ·rw [if_pos c] at h;by_cases f:b.length<=12
  ·rw [if_pos f] at h;refine ⟨c,f,fun i u=>?_⟩;have a:(if Uc l b 7=true then (if Uc l b 2=true then (if Uc l b 6=true then (if Uc l b 3=true then (if Uc l b 1=true then (0:Int) else 1) else 3) else 6) else 2) else 7)=0:=h;have g:Uc l b 7=true:=(by cases e:Uc l b 7 <;> simp [e] at a ⊢);rw [if_pos g] at a;have j:Uc l b 2=true:=(by cases e:Uc l b 2 <;> simp [e] at a ⊢);rw [if_pos j] at a;have m:Uc l b 6=true:=(by cases e:Uc l b 6 <;> simp [e] at a ⊢);rw [if_pos m] at a;have n:Uc l b 3=true:=(by cases e:Uc l b 3 <;> simp [e] at a ⊢);rw [if_pos n] at a;have o:Uc l b 1=true:=(by cases e:Uc l b 1 <;> simp [e] at a ⊢);have d:∀ k,Uc l b k=true->ZZ l (bk b i)≠k:=fun k v=>by
    have:=xv.1 v i u;simpa using this
   have t:=d 7 g;have q:=d 2 j;have s:=d 6 m;have r:=d 3 n;have p:=d 1 o
   revert t q s r p
   unfold ZZ yI z8;rw [if_pos c]
   repeat' split
   all_goals simp
  rw [if_neg f] at h;simp at h
 rw [if_neg c] at h;exact absurd h c
theorem y8 {l:QL} {x:Bk} (d:z9 l=0) (h:ZZ l x=0):meets x.rq x.bs=true/\0<=x.rq.queue/\x.rq.queue<l.length:=by
 unfold ZZ at h;by_cases a:yI l x.rq=0
 ·rw [if_pos a] at h;refine ⟨?_,?_⟩
  ·by_cases b:meets x.rq x.bs=true
   ·exact b
   rw [if_neg b] at h;simp at h
  unfold yI at a;rw [if_pos d] at a;unfold z8 at a;cases c:wV l.length x.rq.queue with
  | true =>
   rw [c,if_pos rfl] at a
   revert a
   repeat' split
   all_goals simp
  | false =>
   simp [wV,yW] at c;omega
 rw [if_neg a] at h;exact absurd h a
def VM (x:Bk) (k t:Nat):Int:=if rN x.bs k<=t/\(t:Int)<rN x.bs k+lenOf x.rq x.bs k then IL x.rq x.bs k else 0
def yo (x:Bk) (t:Nat):Nat->Int
 | 0=>0
 | k+1=>yo x t k+VM x k t
def xh (l:QL) (b:BL) (q t:Nat):Nat->Int
 | 0=>0
 | j+1=>xh l b q t j+if (q:Int)∈zK l (bk b j).rq.queue then yo (bk b j) t (bk b j).bs.length else 0
theorem H9 {g:zd} (hg:zW g) {a b n:Int} (l:0<=a) (m:a<b) (o:b<=48) (hn:1<=n/\n<=50) (h:∀ c:Nat,c<48->0<=zn g c/\zn g c<=1000000) :
 zW (yV g a b n).1/\∀ c:Nat,c<48->zn (yV g a b n).1 c=zn g c+if a<=c/\(c:Int)<b then n else 0:=by
 have j:(Xw a b&&bdd n)=true:=by
  rw [Bool.and_eq_true]
  constructor
  ·simp [Xw];omega
  rw [ZA];omega
 have d:wB (wJ g a b n) 48=true:=by
  rw [ZL];intro i f;have:=h i f;rw [ZA];unfold wJ
  split <;> omega
 have e:yV g a b n=(zD (wJ g a b n) 48,0):=by
  rw [yV,if_pos (zX.2 hg),if_pos j,Yc,if_pos d]
 rw [e];refine ⟨ZP _ 48 (by omega) (by omega) d,fun c k=>?_⟩;show zn (zD (wJ g a b n) 48) c=_;rw [show zn (zD (wJ g a b n) 48) c=wJ g a b n c from Yj _ d c k];unfold wJ
 split <;> omega
theorem Ym {r:Rq} {b:zd} (h:meets r b=true):b.length<=3:=by
 obtain ⟨c,a,d⟩:=yk.1 h;have:=of_decide_eq_true (zv.1 c).2.1;rw [xu] at a
 split at a <;> omega
theorem O3 {x:Bk} (h:meets x.rq x.bs=true) {k:Nat} (a:k<x.bs.length) (t:Nat):0<=VM x k t/\VM x k t<=50:=by
 have:=YC h a;unfold VM
 split <;> omega
theorem Y6 {x:Bk} (h:meets x.rq x.bs=true) (t:Nat):∀ k,k<=x.bs.length->0<=yo x t k/\yo x t k<=50*k
 | 0,_=>by simp [yo]
 | k+1,hk=>by
  have a:=Y6 h t k (by omega);have b:=O3 h (k:=k) (by omega) t;rw [yo];omega
theorem N7 {f:zd} (g:zW f) {x:Bk} (h:meets x.rq x.bs=true) (i:∀ c:Nat,c<48->0<=zn f c/\zn f c<=500000):∀ k,k<=x.bs.length->zW (wh f x k)/\∀ c:Nat,c<48->zn (wh f x k) c=zn f c+yo x c k
 | 0,_=>⟨g,fun c _=>by rw [wh,yo];omega⟩
 | k+1,hk=>by
  obtain ⟨m,e⟩:=N7 g h i k (by omega);have p:=YC h (k:=k) (by omega);have o:=Ym h;obtain ⟨j,l⟩:=H9 m (a:=rN x.bs k) (b:=rN x.bs k+lenOf x.rq x.bs k) (n:=IL x.rq x.bs k) (by omega) (by omega) (by omega) (by omega) (fun c d=>by
   rw [e c d];have:=i c d;have:=Y6 h c k (by omega);omega)
  refine ⟨j,fun c d=>?_⟩;show zn (yV (wh f x k) (rN x.bs k) (rN x.bs k+lenOf x.rq x.bs k) (IL x.rq x.bs k)).1 c=_;rw [l c d,e c d,yo,VM];omega
theorem Th {l:QL} (b:Right l):∀ (m:Nat) (q:Int),q<l.length->q<m->(zK l q).Nodup/\∀ x∈zK l q,0<=x/\x<=q
 | 0,q,h1,h2=>by rw [WZ (by omega)];exact ⟨List.nodup_nil,fun x a=>by cases a⟩
 | m+1,q,h1,h2=>by
  by_cases e:q<0
  ·rw [WZ e];exact ⟨List.nodup_nil,fun x a=>by cases a⟩
  have g:=b.par q.toNat (by omega);obtain ⟨d,c⟩:=Th b m (qu l q.toNat).parent (by omega) (by omega);rw [Y8 b (by omega) h1];refine ⟨List.nodup_cons.2 ⟨fun f=>?_,d⟩,fun x a=>?_⟩
  ·have:=c q f;omega
  rcases List.mem_cons.1 a with rfl | a
  ·omega
  have:=c x a;omega
theorem QQ (x:Bk):∀ (a:List Int) (T:Nat->zd),a.Nodup->(∀ y∈a,0<=y)->∀ q:Nat,wZ x T a q=if (q:Int)∈a then wh (T q) x x.bs.length else T q
 | [],T,_,_,q=>by simp [wZ]
 | p::a,T,hn,hp,q=>by
  rw [List.nodup_cons] at hn;have f:=hp p (by simp);rw [wZ,QQ x a _ hn.2 (fun y d=>hp y (by simp [d])) q];by_cases e:q=p.toNat
  ·have b:(q:Int)=p:=(by omega);rw [if_neg (by rw [b];exact hn.1),if_pos e,if_pos (by rw [b];simp),e]
  have b:(q:Int)≠p:=by omega
  rw [if_neg e];by_cases c:(q:Int)∈a
  ·rw [if_pos c,if_pos (by simp [c])]
  rw [if_neg c,if_neg (by simp [c,b])]
structure Clean (l:QL) (b:BL):Prop where
 tree:z9 l=0
 few:b.length<=12
 each:∀ i,i<b.length->ZZ l (bk b i)=0
theorem O8 {l:QL} {b:BL} (h:wS l b=0):Clean l b:=by
 obtain ⟨a,c,d⟩:=XU h;exact ⟨a,c,d⟩
theorem Xk {l:QL} {b:BL} (h:Clean l b):wS l b=0:=by
 have a:∀ e:Int,e≠0->Uc l b e=true:=fun e c=>by
  unfold Uc;rw [xv];intro i d;rw [h.each i d];simpa using fun h=>c h.symm
 unfold wS;rw [if_pos h.tree,if_pos h.few];show (if Uc l b 7=true then (if Uc l b 2=true then (if Uc l b 6=true then (if Uc l b 3=true then (if Uc l b 1=true then (0:Int) else 1) else 3) else 6) else 2) else 7)=0;rw [if_pos (a 7 (by decide)),if_pos (a 2 (by decide)),if_pos (a 6 (by decide)),if_pos (a 3 (by decide)),if_pos (a 1 (by decide))]
theorem ZT {l:QL} {b:BL} (h:Clean l b):∀ (j:Nat),j<=b.length->∀ q:Nat,zW (zM l b j q)/\∀ t:Nat,t<48->zn (zM l b j q) t=xh l b q t j/\0<=xh l b q t j/\xh l b q t j<=150*j
 | 0,_,q=>⟨by show zW [(0,0)];exact zX.1 (by decide),fun t _=>⟨rfl,by simp [xh],by simp [xh]⟩⟩
 | j+1,hj,q=>by
  obtain ⟨f,c⟩:=ZT h j (by omega) q;obtain ⟨d,v,w⟩:=y8 h.tree (h.each j (by omega));have m:=yY h.tree;obtain ⟨i,k⟩:=Th m (((bk b j).rq.queue).toNat+1) (bk b j).rq.queue (by omega) (by omega);have u:=h.few;have g:=N7 f d (fun p n=>by have:=c p n;omega) (bk b j).bs.length (Nat.le_refl _);rw [zM,QQ _ _ _ i (fun y o=>(k y o).1)];have r:=Ym d;by_cases e:(q:Int)∈zK l (bk b j).rq.queue
  ·rw [if_pos e];refine ⟨g.1,fun t a=>?_⟩;have s:=Y6 d t _ (Nat.le_refl _);have:=c t a;rw [g.2 t a,xh,if_pos e];omega
  rw [if_neg e];refine ⟨f,fun t a=>?_⟩;have:=c t a;rw [xh,if_neg e];omega
theorem XL {F:Fence} {n:Nat} {P:Program} {fn:Func} {tmps:Array Value} {j:Ending->World->Prop} (B:Nat):∀ (c:List Nat) (a:World),B<=a.heap.size->c.Nodup->(∀ D∈c,B<=D/\a.heap[D]?=some (.deferred (some []))) ->
 (∀ b,Below B a b->(∀ (k:Nat) (o:Obj),a.heap[k]?=some o->o.isCells=true->b.heap[k]?=some o)->LeavesIn F n P fn tmps j [] .returning b)->LeavesInM F n P fn tmps j (c.map fun D=>{ target:=.collected D,args:=#[] }) .returning a
 | [],a,_,_,_,h=>h a (Below.refl _ _) (fun _ _ h _=>h)
 | D::c,a,hB,hnd,hm,h=>by
  have d:=hm D (by simp);have l:Below B a (a.putObj D (.deferred none)):=(Below.refl B a).grown (grownBy_putObj' a D _) hB (fun k e=>by cases e;exact d.1);rw [List.nodup_cons] at hnd;refine ⟨by simp,.inl ⟨D,_,rfl,run_takeDeferred d.2,XL B c _ (Nat.le_trans hB l.size) hnd.2 (fun i f=>⟨(hm i (by simp [f])).1,?_⟩) (fun b p q=>h b (l.trans p) (fun k o g m=>q k o ?_ m))⟩⟩
  ·rw [World.putObj_heap_other (fun e=>by subst e;exact hnd.1 f)];exact (hm i (by simp [f])).2
  rw [World.putObj_heap_other (fun e=>by subst e;rw [d.2] at g;cases g;cases m)];exact g
theorem RunsIn.kept {X d:World} {a:Option Addr} {n cap:Nat} {l:zd} (h:RunsIn X a n cap l) (r:∀ (k:Nat) (o:Obj),X.heap[k]?=some o->o.isCells=true->d.heap[k]?=some o):RunsIn d a n cap l:=by
 refine ⟨h.len,h.le,h.bound,h.capb,fun j=>?_⟩;obtain ⟨b,m,q,c⟩:=h.cells j;have s:b<X.heap.size:=block_lt_of_cell (c 0 j).1;have e:d.heap[b]?=X.heap[b]?:=by
  have f:X.heap[b]?=some X.heap[b]:=Array.getElem?_eq_getElem s;rw [f];refine r b _ f ?_;have g:=(c 0 j).1;simp only [World.cell?,f] at g;cases t:X.heap[b] with
  | cells=>rfl
  | _=>rw [t] at g;simp at g
 exact ⟨b,m,q,fun i p=>⟨(World.cell?_of_block (w:=X) (a:=(zA b (m+i*2))) e).trans (c i p).1,(World.cell?_of_block (w:=X) (a:=(zA b (m+i*2+1))) e).trans (c i p).2⟩⟩
theorem Tk.marks {g e f:World} {d n B:Nat} {T:Nat->zd} (h:Tk g e d n T) (b:Below B e f) (r:∀ (k:Nat) (o:Obj),e.heap[k]?=some o->o.isCells=true->f.heap[k]?=some o) (p:g.heap.size=B/\d<B):Tk g f d n T:=by
 obtain ⟨v,x,u⟩:=h.row;refine ⟨b.os.trans h.os,b.tape.trans h.tape,b.output.trans h.output,Nat.le_trans h.size b.size,fun k s t=>(b.block k (by omega)).trans (h.block k s t),v,x.of_block (b.block d p.2),fun q w=>?_⟩;obtain ⟨a,m,c,i,j,l⟩:=u q w;exact ⟨a,m,c,i,j.kept r,l⟩
def Fz (qb qo n cap G:Nat) (ba:Option Addr) (bn bc:Nat) (l:QL) (b:BL) (c8 c25 c26 c27 c28 c29 c30 c31:Value) (W1:World) (a:Act) (W:World):Prop :=
 ∃ (j:Nat) (ds:List Nat) (u10 u35 u36 u37 u38 u39 u40 u41 u42 u53:Value),a={ tmps:=#[.slice (zO qb qo) n cap,.slice ba bn bc,undef,undef,zN,zI 0,zI 0,.pointer (zO (G+1) 0),c8,undef,u10,undef,.slice (zO qb qo) n cap,.slice ba bn bc,zI 0,zI 0,.bool false,undef,.slice (zO qb qo) n cap,zI n,.slice (zO G 0) n n,.slice (zO G 0) n n,zI n,zI n,.bool false,c25,c26,c27,c28,c29,c30,c31,.slice ba bn bc,zI bn,zI j,u35,u36,u37,u38,u39,u40,u41,u42,undef,undef,undef,undef,undef,undef,undef,undef,undef,undef,u53,undef],defers:=ds.map fun D=>{ target:=.collected D,args:=#[] } } /\
  j<=bn/\Tk W1 W G n (zM l b j)/\(∀ D∈ds,G+2<=D/\D<W.heap.size/\W.heap[D]?=some (.deferred (some [])))/\ds.Nodup
def F3 (bn:Nat) (a:Act) (_:World):Nat:=bn-(intOf (a.tmps.getD 34 undef)).toNat
theorem Gq {h i n cap c:Nat} {ba:Option Addr} {bn bc:Nat} {l:QL} {b:BL} {y r s t u v w x:Value} {p d W0 o:World} {j D:Nat} {T:Nat->zd} {g:List Nat} {B C E F G H I J L M:Value} (Q:j<bn) (f:Tk p d c n T) (a:Below d.heap.size d W0) (q:Tk W0 o c n (zM l b (j+1))) (X:c+2<=d.heap.size) (W:p.heap.size=c+2)
 (A:∀ D∈g,c+2<=D/\D<d.heap.size/\d.heap[D]?=some (.deferred (some []))) (S:g.Nodup) (V:W0.heap.size<=D) (z:o.heap[D]?=some (.deferred (some []))) :
 Fz h i n cap c ba bn bc l b y r s t u v w x p { tmps:=#[.slice (zO h i) n cap,.slice ba bn bc,undef,undef,zN,zI 0,zI 0,.pointer (zO (c+1) 0),y,undef,B,undef,.slice (zO h i) n cap,.slice ba bn bc,zI 0,zI 0,.bool false,undef,.slice (zO h i) n cap,zI n,.slice (zO c 0) n n,.slice (zO c 0) n n,zI n,zI n,.bool false,r,s,t,u,v,w,x,.slice ba bn bc,zI bn,zI ((j:Int)+1),C,E,F,G,H,I,J,L,undef,undef,undef,undef,undef,undef,undef,undef,undef,undef,M,undef],defers:={ target:=.collected D,args:=#[] }::(g.map fun D=>{ target:=.collected D,args:=#[] }) } o:=by
 refine ⟨j+1,D::g,B,C,E,F,G,H,I,J,L,M,by simp,Q,?_,fun m e=>?_,?_⟩
 ·exact q.from (fun k R U=>(a.block k (by omega)).trans (f.block k R U)) (a.os.trans f.os) (a.tape.trans f.tape) (a.output.trans f.output) (Nat.le_trans f.size a.size)
 ·rw [List.mem_cons] at e;rcases e with rfl | e
  ·exact ⟨by have:=a.size;omega,(Array.getElem?_eq_some_iff.1 z).1,z⟩
  obtain ⟨N,O,P⟩:=A m e;exact ⟨N,by have:=a.size;have:=q.size;omega,(q.block m (by have:=a.size;omega) (by omega)).trans ((a.block m O).trans P)⟩
 ·rw [List.nodup_cons];exact ⟨fun e=>by have:=(A D e).2.1;have:=a.size;omega,S⟩
theorem JX (w:World) (a:Option Addr) (n cap:Nat) (l:QL) (t:QsIn w a n cap l) (ba:Option Addr) (bn bc:Nat) (b:BL) (r:BksIn w ba bn bc b) (aC:wS l b=0) :
 zC 46 #[.slice a n cap,.slice ba bn bc] w fun e w'=>∃ f,e=.returned (.tuple #[.slice (zO f 0) n n,zI 0])/\w.heap.size<=f/\(∃ W0:World,Tk W0 w' f n (zM l b b.length))/\Below w.heap.size w w':=by
 have ak:=zh t.len;have ck:=t.capb;have cm:=t.le;obtain ⟨aG,bL,a2⟩:=XU aC;have aw:=zh (yY aG);have be:0<n:=by have:=aw.o.pos;have:=ak.o;omega
 have cc:n<=5:=by have:=aw.o.five;have:=ak.o;omega
 obtain ⟨A,E,rfl,aD⟩:=t.cells be;have ci:A<w.heap.size:=block_lt_of_cell (aD 0 be).1;have bv:=zh aD;have b7:=zh t;have au:=zh r;have aM:=zh r.len;have ch:=r.le;have cg:=r.capb;have bC:=zh fun i (ag:i<b.length)=>y8 aG (a2 i ag);have Q:=S6 w (zO A E) n cap l t ba bn bc b r;rw [aC] at Q;have bA:=zh Q;clear aD t r aC aG bL a2 Q;have bU:=run_make_row' (P:=Tryz.prog) 97 25 zN 24 Tryz.underlying97 Tryz.info47 rfl .i64 .i64 n (by omega) (by omega);refine (callsIn_wide (n:=4)).1 ?_;refine callsIn_of_wp_marks Tryz.func46 rfl trivial ?_ rfl;simp only [Tryz.ntmps46,List.size_toArray,List.length_cons,List.length_nil,Nat.reduceAdd,Nat.reduceSub,Array.replicate_succ,Array.replicate_zero,List.push_toArray,List.append_toArray,List.nil_append,List.cons_append]
 gi_wp2_with fail
 refine ⟨trivial,(callsIn_wide.2 bA.o).mono ?_⟩;rintro e C ⟨rfl,ar⟩;have br:=zh ar;have bj:w.heap.size<=C.heap.size:=ar.size;clear ar
 gi_wp2_with fail
 clear bU;obtain ⟨H,aa⟩:=qA ((C.alloc (.cells (madeCells #[zN] n) 25)).alloc (.cells #[.slice (some ⟨C.heap.size,0,none⟩) n n] 97));have aS:Zh (H.rowIs C.heap.size 25 n (fun _=>.slice none 0 0)):=by rw [<-aa];exact (World.rowIs_made C _ n 25).alloc _
 have ad:Zh (Boxed H (C.heap.size+1) 97 (.slice (zO C.heap.size 0) n n)):=by
  rw [<-aa];have:=Boxed.new (C.alloc (.cells (madeCells #[zN] n) 25)) 97 (.slice (zO C.heap.size 0) n n);rwa [World.size_alloc] at this
 have aJ:Zh (Below C.heap.size C H):=by rw [<-aa];exact ((Below.refl _ C).alloc (Nat.le_refl _) _).alloc (by simp) _
 have bi:H.heap.size=C.heap.size+2:=by rw [<-aa];simp
 rw [aa];clear aa;have aU:Zh (Tk H H C.heap.size n (fun _=>[])):=⟨rfl,rfl,rfl,Nat.le_refl _,fun _ _ _=>rfl,_,aS.o,fun q ah=>⟨none,0,0,rfl,ZJ _,fun b Y e=>by cases e⟩⟩;obtain ⟨f,ao⟩:=qA (C.heap.size);rw [ao] at aS ad aJ bi aU bj;rw [ao];have bx:=zh ao;clear ao;have ae:=ad.o.cell
 gi_wp2_with fail
 gi_loopw [8,23] (fun _ p wr=>∃ i:Nat,p=zI i/\i<=n/\Tk H wr f n (fun q=>if q<i then [(0,0)] else [])) (fun _ p _=>n-(intOf p).toNat)
 case atStart=>exact ⟨0,rfl,by omega,aU.o.congr fun q ah=>by rw [if_neg (by omega)]⟩
 case round =>
  clear ae;obtain ⟨i,rfl,ag,ap⟩:=hrel;have al:=zh ap;have ae:=(ap.box ad.o (by omega)).cell;have b3:H.heap.size<=wr.heap.size:=ap.size;have aZ:f<wr.heap.size:=by omega
  have bO:f+1<wr.heap.size:=by omega
  clear ap;by_cases W:i<n
  ·have bT:(i:Int)<n:=(by omega);obtain ⟨ca,ct,cb,aj,aq,_,_⟩:=al.o.at W
   gi_wp2
   go_roundw
   case rel =>
    have bQ:Below wr.heap.size wr (wr.alloc (.cells #[zI 0,zI 0] 55)):=zr _ _;have L:=(al.o.later bQ).hit i (a:=zO wr.heap.size 0) (m:=1) (c:=1) (g:=[(0,0)]) (R7 wr [(0,0)] _ 1 rfl rfl (by simp)) (fun b Y e=>by cases e;omega);rw [World.setCell_alloc_past (hn:=aZ)] at L;exact ⟨i+1,by go_num,by omega,L.congr fun q ah=>by
     by_cases e:q=i
     ·rw [if_pos e,if_pos (by omega)]
     rw [if_neg e];by_cases aY:q<i
     ·rw [if_pos aY,if_pos (by omega)]
     rw [if_neg aY,if_neg (by omega)]⟩
   case measure=>simp [intOf];omega
  obtain rfl:n=i:=by omega
  have aQ:Zh (Tk H wr f n (zM l b 0)):=al.o.congr fun q ah=>by rw [if_pos ah];rfl
  gi_wp2_with fail
  refine wpIn_loop (Fz A E n cap f ba bn bc l b u8 u25 u26 u27 u28 u29 u30 u31 H) (F3 bn) ?start ?round
  case start=>exact ⟨0,[],undef,undef,undef,undef,undef,undef,undef,undef,undef,undef,rfl,by omega,aQ.o,fun D V=>by simp at V,by simp⟩
  clear ae al aQ b3 aZ bO W ag;rintro a d ⟨j,aX,cu,cv,cw,cx,cy,cz,cA,cB,cC,b6,rfl,cl,an,a8,a9⟩;have ab:=zh an;have av:=zh a8;have aO:=zh a9;have bh:f+2<=d.heap.size:=by have:=an.size;omega
  have a4:Below w.heap.size w d:=(br.o.trans (aJ.o.mono (by have:=bx.o;omega))).trans (an.below (B:=w.heap.size) (by omega) (by omega));have G:=zh a4;clear an a8 a9 a4;generalize a6:(aX.map fun D=>({ target:=.collected D,args:=#[] }:Deferred))=dm;have aN:=zh a6;clear a6;by_cases W:j<bn
  ·have bT:(j:Int)<bn:=(by omega);obtain ⟨Z,am,rfl,a5⟩:=au.o.cells (by omega);obtain ⟨O,c1,c2,c3,c4,c5,U⟩:=a5 j W;have ce:Z<w.heap.size:=block_lt_of_cell O;have cf:Z<d.heap.size:=by have:=G.o.size;omega
   replace O:=cell_later G.o O
   replace c1:=cell_later G.o c1
   replace c2:=cell_later G.o c2
   replace c3:=cell_later G.o c3
   replace c4:=cell_later G.o c4
   replace c5:=cell_later G.o c5
   replace U:=cell_later G.o U
   obtain ⟨aE,bY,bZ⟩:=bC.o j (by have:=aM.o;omega);have aF:=au.o.rqs j W;have aB:=au.o.bites j W;have aR:Zh (zM l b (j+1)=wZ (bk b j) (zM l b j) (zK l (bk b j).rq.queue)):=rfl;obtain ⟨X,a1⟩:=qA (bk b j);rw [a1] at O c1 c2 c3 c4 c5 U aE bY bZ aF aB aR;have bB:=zh aE;have bD:=zh aF;have bt:=zh aB;clear a1 aE aF aB a5
   gi_wp2_with fail
   refine ⟨trivial,(Hh Fence.wide _ trivial rfl _ _ _ ⟨_,_,_,rfl⟩).mono ?_⟩;rintro e cE ⟨rfl,rfl⟩
   gi_wp2_with fail
   have ay:=Boxed.new ((d.alloc (.cells #[zI X.id,zI X.rq.queue,zI X.rq.fr,zI X.rq.un,zI X.rq.kind,.slice X.rq.pa X.rq.pn X.rq.pc,.slice X.ba X.bn X.bc] 60)).alloc (.cells #[.slice (zO A E) n cap] 37)) 3 (zI X.rq.queue);have az:=Boxed.new (d.alloc (.cells #[zI X.id,zI X.rq.queue,zI X.rq.fr,zI X.rq.un,zI X.rq.kind,.slice X.rq.pa X.rq.pn X.rq.pc,.slice X.ba X.bn X.bc] 60)) 37 (.slice (zO A E) n cap);rw [World.size_alloc] at az;rw [World.size_alloc,World.size_alloc] at ay;have aV:=az.alloc (.cells #[zI X.rq.queue] 3);have af:Below d.heap.size d (((d.alloc (.cells #[zI X.id,zI X.rq.queue,zI X.rq.fr,zI X.rq.un,zI X.rq.kind,.slice X.rq.pa X.rq.pn X.rq.pc,.slice X.ba X.bn X.bc] 60)).alloc (.cells #[.slice (zO A E) n cap] 37)).alloc (.cells #[zI X.rq.queue] 3)):=(((Below.refl _ d).alloc (Nat.le_refl _) _).alloc (by simp) _).alloc (by simp;omega) _;have aA:Below (d.alloc (.cells #[zI X.id,zI X.rq.queue,zI X.rq.fr,zI X.rq.un,zI X.rq.kind,.slice X.rq.pa X.rq.pn X.rq.pc,.slice X.ba X.bn X.bc] 60)).heap.size (d.alloc (.cells #[zI X.id,zI X.rq.queue,zI X.rq.fr,zI X.rq.un,zI X.rq.kind,.slice X.rq.pa X.rq.pn X.rq.pc,.slice X.ba X.bn X.bc] 60)) (((d.alloc (.cells #[zI X.id,zI X.rq.queue,zI X.rq.fr,zI X.rq.un,zI X.rq.kind,.slice X.rq.pa X.rq.pn X.rq.pc,.slice X.ba X.bn X.bc] 60)).alloc (.cells #[.slice (zO A E) n cap] 37)).alloc (.cells #[zI X.rq.queue] 3)):=(zr _ _).alloc (by simp) _;have b2:(((d.alloc (.cells #[zI X.id,zI X.rq.queue,zI X.rq.fr,zI X.rq.un,zI X.rq.kind,.slice X.rq.pa X.rq.pn X.rq.pc,.slice X.ba X.bn X.bc] 60)).alloc (.cells #[.slice (zO A E) n cap] 37)).alloc (.cells #[zI X.rq.queue] 3)).heap.size=d.heap.size+3:=(by simp);obtain ⟨W0,a0⟩:=qA (((d.alloc (.cells #[zI X.id,zI X.rq.queue,zI X.rq.fr,zI X.rq.un,zI X.rq.kind,.slice X.rq.pa X.rq.pn X.rq.pc,.slice X.ba X.bn X.bc] 60)).alloc (.cells #[.slice (some ⟨A,E,none⟩) n cap] 37)).alloc (.cells #[zI X.rq.queue] 3));rw [a0] at b2 af aV ay aA ⊢;have bH:=zh (Uo d X);have bu:=zh aA;clear a0 az aA O c1 c2 c3 c4 c5 U;have bK:Boxed W0 (f+1) 97 (.slice (zO f 0) n n):=(af.block _ (by omega)).trans (ab.o.box ad.o (by omega));have bp:Tk W0 W0 f n (zM l b j):=by
    have L:=ab.o.later af;exact ⟨rfl,rfl,rfl,Nat.le_refl _,fun _ _ _=>rfl,L.row⟩
   have aW:∀ i,i<n->W0.cell? (zA A (E+i*3+1))=some (zI (qu l i).parent):=fun i ag =>
    cell_later af (cell_later G.o (bv.o i ag).2.1)
   have bw:=zh aW;have bE:=zh bp;have aL:=zh af;clear aW bp;refine wpIn_rangeFunc_ownG (F:=Fence.wide) rfl (by omega) (gf:=130) (lb:=#[.pointer (zO (d.heap.size+1+1) 0),.pointer (zO (d.heap.size+1) 0)]) rfl trivial (enters_of Tryz.func130 (by kernel_rfl) rfl)
    (Py Fence.wide _ trivial rfl (by omega) (d.heap.size+1+1) (d.heap.size+1) f A E n cap l X.rq.queue aw.o ak.o (by have:=ak.o;omega) W0 ay aV (by omega) (by omega) bw.o)
    YO.trans (Rs (by omega)) (Below.refl _ _) (fun _=>rfl)
    (fun ai u=>Tk W0 u f n (wZ X (zM l b j) (ai.map (·.1))))
    (fun _ _ _=>False)
    (Tk.own (Nat.le_refl _) (by omega))
    (fun c s X z row h _ _=>h)
    bE.o
    (fun x=>{ tmps:=#[.slice (zO A E) n cap,.slice (zO Z am) bn bc,undef,undef,zN,zI 0,zI 0,.pointer (zO (f+1) 0),u8,undef,.pointer (zO d.heap.size 0),zI x.1,.slice (zO A E) n cap,.slice (zO Z am) bn bc,zI 0,zI 0,.bool false,undef,.slice (zO A E) n cap,zI n,.slice (zO f 0) n n,.slice (zO f 0) n n,zI n,zI n,.bool false,u25,u26,u27,u28,u29,u30,u31,.slice (zO Z am) bn bc,zI bn,zI j,.bool true,.pointer (zO Z (am+j*7)),.agg #[zI X.id,zI X.rq.queue,zI X.rq.fr,zI X.rq.un,zI X.rq.kind,.slice X.rq.pa X.rq.pn X.rq.pc,.slice X.ba X.bn X.bc],.slice (zO A E) n cap,.pointer (zO d.heap.size 1),.pointer (zO d.heap.size 1),zI X.rq.queue,.func (.func 130) #[] #[.pointer (zO (d.heap.size+1+1) 0),.pointer (zO (d.heap.size+1) 0)],zI x.1,undef,undef,undef,undef,undef,undef,undef,undef,undef,b6,undef],defers:=[] }) ?assign ?body ?done ?stop
   case assign =>
    intro l x d b8 Q
    gi_wp2
    exact Q
   case body =>
    rintro cs ai x u I cn;obtain ⟨x,b5,cr⟩:=x;obtain ⟨P,rfl⟩:=Int.eq_ofNat_of_zero_le b5;have bP:P<n:=(by omega);have cd:(P:Int)<n:=(by omega);obtain ⟨ax,aI,aH,aj,aq,bf,bW⟩:=I.at bP;have aK:=zh (I.box bK (by omega)).cell;have aT:=zh aj;have bJ:=zh aq;have aP:=zh bf;have cq:W0.heap.size<=u.heap.size:=I.size;have bq:Zh (∀ z,Below u.heap.size u z->z.cell? (zA d.heap.size 0)=some (zI X.id)/\z.cell? (zA d.heap.size 1)=some (zI X.rq.queue)/\z.cell? (zA d.heap.size 2)=some (zI X.rq.fr)/\z.cell? (zA d.heap.size 3)=some (zI X.rq.un)/\z.cell? (zA d.heap.size 4)=some (zI X.rq.kind)/\z.cell? (zA d.heap.size 5)=some (.slice X.rq.pa X.rq.pn X.rq.pc)/\z.cell? (zA d.heap.size 6)=some (.slice X.ba X.bn X.bc)):=fun z J=>by
     obtain ⟨O,c1,c2,c3,c4,c5,U⟩:=bH.o W0 bu.o;have e:u.heap[d.heap.size]?=W0.heap[d.heap.size]?:=I.block _ (by omega) (by omega);exact ⟨cell_later J ((World.cell?_of_block (w:=W0) (a:=(zA d.heap.size 0)) e).trans O),cell_later J ((World.cell?_of_block (w:=W0) (a:=(zA d.heap.size 1)) e).trans c1),cell_later J ((World.cell?_of_block (w:=W0) (a:=(zA d.heap.size 2)) e).trans c2),cell_later J ((World.cell?_of_block (w:=W0) (a:=(zA d.heap.size 3)) e).trans c3),cell_later J ((World.cell?_of_block (w:=W0) (a:=(zA d.heap.size 4)) e).trans c4),cell_later J ((World.cell?_of_block (w:=W0) (a:=(zA d.heap.size 5)) e).trans c5),cell_later J ((World.cell?_of_block (w:=W0) (a:=(zA d.heap.size 6)) e).trans U)⟩
    have bm:Below w.heap.size w u:=(G.o.trans (aL.o.mono (by have:=G.o.size;omega))).trans (I.below (B:=w.heap.size) (by omega) (by omega));have bF:=zh I;obtain ⟨g,hg⟩:=qA (wZ X (zM l b j) (ai.map (·.1)) P);rw [hg] at aP;have bz:=zh hg;have bg:zH u X.rq:=zH.later bD.o bm;have a3:RunsIn u X.ba X.bn X.bc X.bs:=bt.o.later bm;have bI:=zh fun z (J:Below u.heap.size u z)=>Ho z ax aI aH g (aP.o.later J) X (zH.later bg J) (a3.later J) bB.o;clear I aj aq bf bW hg bg a3
    gi_wp2_with fail
    refine Tx ((Tryz.f46.body.bind fun c=>yi c 15).getD #[]) (by kernel_rfl) [zl (.slice (zO f 0) n n),zl (zI P),zl (.slice (zO f 0) n n),zl (zI P),zl (.pointer (zO f P)),zl (.slice ax aI aH),zl (.agg #[zI X.id,zI X.rq.queue,zI X.rq.fr,zI X.rq.un,zI X.rq.kind,.slice X.rq.pa X.rq.pn X.rq.pc,.slice X.ba X.bn X.bc]),⟨fun v z=>∃ M S R,v=.slice M S R/\RunsIn z M S R (wh g X X.bs.length)/\∀ b Y,M=zO b Y->u.heap.size<=b,fun _ z b9 ⟨M,S,R,L,bM,bN⟩ r=>⟨M,S,R,L,bM.later r,bN⟩⟩,zl (.pointer (zO f P)),zl undef] 9 (by kernel_rfl) (by kernel_rfl) (by kernel_rfl) (by kernel_rfl) ?hstep ?hlast
    case hstep =>
     refine zc.cons 1 rfl ?_ ?_
     ·intro _ T w' r t y;have N:T.getD 7 undef=.pointer (zO (f+1) 0):=t 7;have ae:=cell_later r aK.o;exact zs (by go_simp) rfl
     refine zc.cons 2 rfl ?_ ?_
     ·intro _ T w' r t y;have N:T.getD 11 undef=zI P:=t 11;exact zs (by go_simp) rfl
     refine zc.cons 3 rfl ?_ ?_
     ·intro _ T w' r t y;have N:T.getD 7 undef=.pointer (zO (f+1) 0):=t 7;have ae:=cell_later r aK.o;exact zs (by go_simp) rfl
     refine zc.cons 4 rfl ?_ ?_
     ·intro _ T w' r t y;have N:T.getD 11 undef=zI P:=t 11;exact zs (by go_simp) rfl
     refine zc.cons 5 rfl ?_ ?_
     ·intro _ T w' r t y;have N:T.getD 46 undef=_:=y 2 46;have L:T.getD 47 undef=_:=y 3 47;exact zs (by go_simp) rfl
     refine zc.cons 6 rfl ?_ ?_
     ·intro _ T w' r t y;have N:T.getD 48 undef=_:=y 4 48;have aj:=cell_later r aT.o;exact zs (by go_simp) rfl
     refine zc.cons 7 rfl ?_ ?_
     ·intro _ T w' r t y;have N:T.getD 10 undef=.pointer (zO d.heap.size 0):=t 10;obtain ⟨O,c1,c2,c3,c4,c5,U⟩:=bq.o w' r;exact zs (by go_simp) rfl
     refine zc.cons 8 rfl ?_ ?_
     ·intro _ T w' r t y;have N:T.getD 49 undef=_:=y 5 49;have L:T.getD 50 undef=_:=y 6 50;refine Or.inr ⟨82,#[.slice ax aI aH,.agg #[zI X.id,zI X.rq.queue,zI X.rq.fr,zI X.rq.un,zI X.rq.kind,.slice X.rq.pa X.rq.pn X.rq.pc,.slice X.ba X.bn X.bc]],by go_simp,?_⟩;refine (bI.o w' r).mono ?_;rintro e cD ⟨M,S,R,rfl,b0,bR,bX⟩;exact ⟨_,rfl,⟨M,S,R,rfl,b0,fun b Y e=>by have:=bX b Y e;have:=r.size;omega⟩,bR⟩
     refine zc.cons 9 rfl ?_ ?_
     ·intro _ T w' r t y;have N:T.getD 44 undef=_:=y 0 44;have L:T.getD 45 undef=_:=y 1 45;exact zs (by go_simp) rfl
     exact ⟨fun h=>absurd rfl h,trivial⟩
    case hlast =>
     intro o bb T w' r cp t y;have bd:((Tryz.f46.body.bind fun c=>yi c 15).getD #[])[9]?=some { dst:=none,op:=Op.store 25 (Operand.tmp 52) (Operand.tmp 51),type:=0,pos:= "load.go:26",after:=#[{ on:=8,ground:=Ground.data },{ on:=7,ground:=Ground.data },{ on:=7,ground:=Ground.chain },{ on:=0,ground:=Ground.phase },{ on:=1,ground:=Ground.phase },{ on:=2,ground:=Ground.phase },{ on:=3,ground:=Ground.phase },{ on:=4,ground:=Ground.phase },{ on:=5,ground:=Ground.phase },{ on:=6,ground:=Ground.phase },{ on:=7,ground:=Ground.phase }],guard:=none }:=(by kernel_rfl);rw [bd] at bb;cases bb
     clear bd;have N:T.getD 52 undef=.pointer (zO f P):=y 8 52 (by decide) (by kernel_rfl);obtain ⟨M,S,R,L,b1,bV⟩:=y 7 51 (by decide) (by kernel_rfl);have aj:=cell_later r aT.o;have aq:=(World.frozen?_of_block (w:=u) (a:=(zA f P)) (r.block f (by omega))).trans bJ.o;refine ⟨w'.setCell (zA f P) (.slice M S R),by go_simp,?_⟩;refine ⟨?_,?_,?_⟩
     ·exact (KeepsOthers.trans (⟨r.size,fun k o a7 _=>(r.block k (Array.getElem?_eq_some_iff.1 a7).1).trans a7⟩:KeepsOthers u w') (KeepsOthers.setCell _ _ _)).from _
     ·exact ⟨(show Below f u w' from r.mono (by omega)).setCell (Nat.le_refl _) _,fun v bl=>(Below.heap_setCell _ _ _ _ (by simp only;omega)).trans ((r.block _ bl.lt).trans bl)⟩
     show Tk W0 _ f n (wZ X (zM l b j) (List.map (fun x:QN n=>x.1) (ai++[_])));rw [List.map_append,List.map_cons,List.map_nil,TG];have:=(bF.o.later r).hit P b1 (fun b Y e=>by have:=bV b Y e;omega);exact this.congr fun q ah=>by
      show (if q=P then wh g X X.bs.length else _)=_;rw [Int.toNat_natCast,bz.o]
   case done =>
    rintro D cF u V bo I Q;rw [bo] at I;have bG:Zh (Tk W0 u f n (zM l b (j+1))):=(by show Tk W0 u f n (zM l b (j+1));rw [aR.o];exact I);clear I bo
    gi_wp2
    rw [<-aN.o];exact ⟨Gq W ab.o aL.o bG.o bh bi av.o aO.o V Q,by simp [F3,intOf];omega⟩
   case stop =>
    rintro D c ai u V co h Q;cases h
  obtain rfl:bn=j:=by omega
  have cj:=(ab.o.box ad.o (by omega)).cell
  gi_wp2
  show LeavesInM _ _ _ _ _ _ dm _ _;rw [<-aN.o];refine XL (f+2) aX d bh aO.o (fun D V=>⟨(av.o D V).1,(av.o D V).2.2⟩) (fun u r bS=>?_);have b4:=ab.o.marks r bS (by omega);refine ⟨_,results_tmp2 rfl _ _ _,f,rfl,bj,⟨_,by rw [<-aM.o];exact b4⟩,?_⟩;exact G.o.trans (r.mono (by omega))
theorem FA (w:World) (a:Option Addr) (n cap:Nat) (l:QL) (r:QsIn w a n cap l) (ba:Option Addr) (bn bc:Nat) (b:BL) (o:BksIn w ba bn bc b) (p:wS l b=0) :
 zC 46 #[.slice a n cap,.slice ba bn bc] w fun e w'=>∃ d,e=.returned (.tuple #[.slice (zO d 0) n n,zI 0])/\w.heap.size<=d/\(∀ q,q<n->∃ a m c,w'.cell? (zA d q)=some (.slice a m c)/\RunsIn w' a m c (zM l b b.length q))/\Below w.heap.size w w':=by
 refine (JX w a n cap l r ba bn bc b o p).mono ?_;rintro e w' ⟨d,i,j,⟨W0,t⟩,k⟩;refine ⟨d,i,j,fun q s=>?_,k⟩;obtain ⟨f,u,k',g,_,h,_⟩:=t.at s;exact ⟨f,u,k',g,h⟩
def Vx (w:World) (G n:Nat) (T:Nat->zd):Prop:=∀ q,q<n->∃ a m c,w.cell? (zA G q)=some (.slice a m c)/\RunsIn w a m c (T q)
theorem Vx.later {w w':World} {b n:Nat} {T:Nat->zd} (h:Vx w b n T) (d:Below w.heap.size w w'):Vx w' b n T:=fun q g=>by
 obtain ⟨a,m,c,e,f⟩:=h q g;exact ⟨a,m,c,cell_later d e,f.later d⟩
def GU (w w':World) (e:Ending) (n:Nat) (T:Nat->zd) (er:Int):Prop:=∃ a m c,e=.returned (.tuple #[.slice a m c,zI er])/\(er=0->∃ G,a=zO G 0/\n=m/\n=c/\Vx w' G n T)/\(er≠0->a=none/\m=0/\c=0)/\Below w.heap.size w w'
theorem PM (w:World) (a:Option Addr) (n cap:Nat) (l:QL) (f:QsIn w a n cap l) (ba:Option Addr) (bn bc:Nat) (b:BL) (d:BksIn w ba bn bc b) :
 zC 46 #[.slice a n cap,.slice ba bn bc] w fun e w'=>GU w w' e n (zM l b b.length) (wS l b):=by
 by_cases c:wS l b=0
 ·refine (FA w a n cap l f ba bn bc b d c).mono ?_;rintro e w' ⟨i,rfl,_,q,p⟩;rw [c];exact ⟨_,_,_,rfl,fun _=>⟨i,rfl,rfl,rfl,q⟩,fun h=>absurd rfl h,p⟩
 ·have r:(wS l b != 0)=true:=by simp [c]
  have m:=zh (S6 w a n cap l f ba bn bc b d);have k:=zh c;clear f d c;refine (callsIn_wide (n:=4)).1 ?_;refine callsIn_of_wp_marks Tryz.func46 rfl trivial ?_ rfl;simp only [Tryz.ntmps46,List.size_toArray,List.length_cons,List.length_nil,Nat.reduceAdd,Nat.reduceSub,Array.replicate_succ,Array.replicate_zero,List.push_toArray,List.append_toArray,List.nil_append,List.cons_append]
  gi_wp2_with fail
  refine ⟨trivial,(callsIn_wide.2 m.o).mono ?_⟩;rintro e s ⟨rfl,g⟩;have j:=zh g;clear g
  gi_wp2
  exact ⟨_,results_tmp2 rfl _ _ _,none,0,0,rfl,fun h=>absurd h k.o,fun _=>⟨rfl,rfl,rfl⟩,j.o⟩
def Vk (r t:zd) (fm:Int):Bool:=if fm=48 then false else decide ((xN (xl (fun x y=>x-y) r t).1 fm 48).1<0)
theorem Jy (w:World) (g h:Option Addr) (k c1 l c2:Nat) (r t:zd) (p:RunsIn w g k c1 r) (q:RunsIn w h l c2 t) (fm:Int) :
 zC 85 #[.slice g k c1,.slice h l c2,zI fm] w fun e w'=>e=.returned (.bool (Vk r t fm))/\Below w.heap.size w w':=by
 by_cases d:fm=48
 ·subst d;go_enter Tryz.func85,Tryz.ntmps85;go_wp2;go_ret;exact ⟨rfl,Below.refl _ _⟩
 ·have E:(fm==48)=false:=by simp [d]
  have z:Vk r t fm=decide ((xN (xl (fun x y=>x-y) r t).1 fm 48).1<0):=if_neg d;rw [z];have n:=zh (QK w g h k l c1 c2 r t p q);obtain ⟨b,i⟩:=qA (xl (fun x y=>x-y) r t);rw [i] at n;rw [i];obtain ⟨x,j⟩:=qA (xN b.1 fm 48);rw [j];have C:=zh j;clear z i d p q j;go_enter Tryz.func85,Tryz.ntmps85;go_wp2_with fail
  refine n.o.mono ?_;rintro e D ⟨a,m,c,rfl,v,s⟩;have A:=zh s;go_wp2_with fail
  have f:=QJ D a m c b.1 fm 48 v;rw [C.o] at f;refine f.mono ?_;clear f;rintro e F ⟨rfl,u⟩;have B:=zh (za A.o u);clear v s u;go_wp2;go_ret;exact ⟨rfl,B.o⟩
def Zt (l:QL) (T:Nat->zd) (fm:Int):Nat->Bool
 | 0=>true
 | k+1=>Zt l T fm k&&!Vk (qu l k).runs (T k) fm
theorem Q9 {l:QL} {T:Nat->zd} {fm:Int} {k:Nat} (h:Vk (qu l k).runs (T k) fm=true):∀ n,k<n->Zt l T fm n=false
 | 0,hn=>by omega
 | n+1,hn=>by
  by_cases e:k=n
  ·subst e;simp [Zt,h]
  rw [Zt,Q9 h n (by omega)];rfl
def Uy (l:QL) (b:BL) (fm:Int):Int:=if wS l b=0 then (if fm<0\/48<fm then 3 else 0) else wS l b
def YS (l:QL) (b:BL) (fm:Int):Bool:=if Uy l b fm=0 then Zt l (zM l b b.length) fm l.length else false
theorem JT (w:World) (a:Option Addr) (n cap:Nat) (l:QL) (i:QsIn w a n cap l) (ba:Option Addr) (bn bc:Nat) (b:BL) (f:BksIn w ba bn bc b) (fm:Int) :
 zC 51 #[.slice a n cap,.slice ba bn bc,zI fm] w fun e w'=>e=.returned (.tuple #[.bool (YS l b fm),zI (Uy l b fm)])/\Below w.heap.size w w':=by
 have x:=zh (PM w a n cap l i ba bn bc b f);by_cases r:wS l b=0
 ·rw [r] at x;have q:Uy l b fm=if fm<0\/48<fm then 3 else 0:=if_pos r;by_cases z:fm<0\/48<fm
  ·rw [if_pos z] at q;have t:YS l b fm=false:=(by rw [YS,q];rfl);rw [q,t];clear q t r i f;by_cases m:fm<0
   ·clear z;go_enter Tryz.func51,Tryz.ntmps51;go_wp2_with fail
    refine x.o.mono ?_;rintro e H ⟨M,W,V,rfl,u,_,f⟩;have s:=zh f;clear f u;go_wp2;go_ret2
    exact ⟨rfl,s.o⟩
   have aE:(48:Int)<fm:=(by omega);clear z;go_enter Tryz.func51,Tryz.ntmps51;go_wp2_with fail
   refine x.o.mono ?_;rintro e H ⟨M,W,V,rfl,u,_,f⟩;have s:=zh f;clear f u;go_wp2;go_ret2
   exact ⟨rfl,s.o⟩
  rw [if_neg z] at q;have t:YS l b fm=Zt l (zM l b b.length) fm l.length:=by rw [YS,q];rfl
  rw [q,t];have m:¬fm<0:=by omega
  have aE:¬(48:Int)<fm:=by omega
  have aA:=zh i.len;have aO:=i.le;have aM:=i.capb;obtain ⟨T,Q⟩:=qA (zM l b b.length);rw [Q] at x;rw [Q];rw [<-aA.o];obtain ⟨y,O⟩:=qA (Zt l T fm n);rw [O];have ab:=zh O;have aG:0<n:=by have:=(yY (XU r).1).pos;have:=i.len;omega
  obtain ⟨F,G,rfl,ap⟩:=i.cells aG;have ay:=zh ap;have az:=zh i;clear q t r i f z Q O ap;go_enter Tryz.func51,Tryz.ntmps51;go_wp2_with fail
  refine x.o.mono ?_;rintro e H ⟨M,W,V,rfl,u,_,f⟩;obtain ⟨I,rfl,rfl,rfl,av⟩:=u rfl;have s:=zh f;have aB:=zh av;clear f u av;go_wp2_with fail
  go_loopw [10,28] (fun _ p wr=>∃ k:Nat,p=zI k/\k<=n/\Zt l T fm k=true/\zL H wr) (fun _ p _=>n-(intOf p).toNat)
  case atStart=>exact ⟨0,rfl,by omega,rfl,Below.refl _ _⟩
  obtain ⟨k,rfl,aN,aq,ak⟩:=hrel;have ae:=zh aq;have A:=zh ak;clear aq ak;by_cases E:k<n
  ·have aP:(k:Int)<n:=(by omega);have R:=za s.o A.o;obtain ⟨X,Z,Y,ar,au⟩:=aB.o.later A.o k E;have ax:=zh ar;have aa:=zh (cell_later R (ay.o k E).2.2);have ao:=(az.o.caps k E).later R;obtain ⟨S,P⟩:=qA (Vk (qu l k).runs (T k) fm);have L:=zh fun ag (ai:zL wr ag)=>Jy ag (qu l k).ca X (qu l k).cn (qu l k).cc Z Y (qu l k).runs (T k) (ao.later ai) (au.later ai) fm;rw [P] at L;have af:=zh P;obtain ⟨B,al⟩:=qA ((qu l k).ca);obtain ⟨D,an⟩:=qA ((qu l k).cn);obtain ⟨C,am⟩:=qA ((qu l k).cc);rw [al,an,am] at aa L;clear ar au ao P al an am R;go_wp2_with fail
   go_cut [41] (fun v aI=>v=.bool S/\zL wr aI)
   case first =>
    refine zV ((Tryz.f51.body.bind fun c=>yi c 9).getD #[]) (by kernel_rfl) [zl (.slice (zO F G) n cap),zl (zI k),zl (.pointer (zO F (G+k*3))),zl (.pointer (zO F (G+k*3+2))),zl (.slice B D C),zl (.slice (zO I 0) n n),zl (zI k),zl (.pointer (zO I k)),zl (.slice X Z Y),zl (zI fm),zl (.bool S)] [] (by kernel_rfl) (by kernel_rfl) (by kernel_rfl) ?hg ?hstep ?hfin
    case hg =>
     intro g hg v w h;cases hg
    case hstep =>
     refine zc.cons 1 rfl ?_ ?_
     ·intro T w' f i j;have m:T.getD 0 undef=.slice (zO F G) n cap:=i 0;exact zs (by go_simp) rfl
     refine zc.cons 2 rfl ?_ ?_
     ·intro T w' f i j;have m:T.getD 10 undef=zI k:=i 10;exact zs (by go_simp) rfl
     refine zc.cons 3 rfl ?_ ?_
     ·intro T w' f i j;have m:T.getD 31 undef=_:=j 0 31;have ah:T.getD 32 undef=_:=j 1 32;exact zs (by go_simp) rfl
     refine zc.cons 4 rfl ?_ ?_
     ·intro T w' f i j;have m:T.getD 33 undef=_:=j 2 33;exact zs (by go_simp) rfl
     refine zc.cons 5 rfl ?_ ?_
     ·intro T w' f i j;have m:T.getD 34 undef=_:=j 3 34;have aJ:=cell_later f aa.o;exact zs (by go_simp) rfl
     refine zc.cons 6 rfl ?_ ?_
     ·intro T w' f i j;have m:T.getD 8 undef=.slice (zO I 0) n n:=i 8;exact zs (by go_simp) rfl
     refine zc.cons 7 rfl ?_ ?_
     ·intro T w' f i j;have m:T.getD 10 undef=zI k:=i 10;exact zs (by go_simp) rfl
     refine zc.cons 8 rfl ?_ ?_
     ·intro T w' f i j;have m:T.getD 36 undef=_:=j 5 36;have ah:T.getD 37 undef=_:=j 6 37;exact zs (by go_simp) rfl
     refine zc.cons 9 rfl ?_ ?_
     ·intro T w' f i j;have m:T.getD 38 undef=_:=j 7 38;have aK:=cell_later f ax.o;exact zs (by go_simp) rfl
     refine zc.cons 10 rfl ?_ ?_
     ·intro T w' f i j;have m:T.getD 2 undef=zI fm:=i 2;exact zs (by go_simp) rfl
     refine zc.cons 11 rfl ?_ ?_
     ·intro T w' f i j;have m:T.getD 35 undef=_:=j 4 35;have ah:T.getD 39 undef=_:=j 8 39;have aL:T.getD 40 undef=_:=j 9 40;refine Or.inr ⟨85,#[.slice B D C,.slice X Z Y,zI fm],by go_simp,?_⟩;refine (L.o w' f).mono ?_;rintro e aR ⟨rfl,aF⟩;exact ⟨_,rfl,rfl,aF⟩
     exact trivial
    intro T w' f aH i j;have aC:T.getD 41 undef=.bool S:=j 10 41;rw [yb (tt 31 [false,false,false,false,false,false,false,false,false,false,false] 1) (by kernel_rfl) aH @i];obtain ⟨us,aw⟩:∃ us:Nat->Value,(fun d=>T.getD d undef)=us:=⟨_,rfl⟩;rw [aw];have aD:us 41=.bool S:=(by rw [<-aw];exact aC);apply_assumption;simp only [xj,tt,List.replicate,List.cons_append,List.nil_append];go_meet;exact ⟨aD,f⟩
   obtain ⟨rfl,aj⟩:=hcut;have ad:=zh (za A.o aj);clear aj;cases S with
   | true =>
    have J:Zh (false=y):=(by show false=y;rw [<-ab.o,Q9 af.o n E]);go_wp2;go_ret2
    rw [<-J.o];exact ⟨rfl,za s.o ad.o⟩
   | false =>
    go_wp2;go_roundw
    case rel=>exact ⟨k+1,by go_num,by omega,by rw [Zt,ae.o,af.o];rfl,ad.o⟩
    case measure=>simp [intOf];omega
  obtain rfl:k=n:=by omega
  have J:Zh (true=y):=by show true=y;rw [<-ab.o,ae.o]
  go_wp2;go_ret2
  rw [<-J.o];exact ⟨rfl,za s.o A.o⟩
 ·have q:Uy l b fm=wS l b:=if_neg r;have t:YS l b fm=false:=by rw [YS,q,if_neg r]
  rw [q,t];obtain ⟨N,U⟩:=qA (wS l b);rw [U] at x r;rw [U];have aQ:(N != 0)=true:=by simp [r]
  clear q t i f U r;go_enter Tryz.func51,Tryz.ntmps51;go_wp2_with fail
  refine x.o.mono ?_;rintro e H ⟨M,W,V,rfl,u,_,f⟩;have s:=zh f;clear f u;go_wp2;go_ret2
  exact ⟨rfl,s.o⟩
theorem QW {l:zd}:∀ {n:Nat},Xj l n=true->∀ k,k<n->0<=rN l k/\rN l k<=50
 | 0,_,k,hk=>by omega
 | n+1,h,k,hk=>by
  rw [Xj,Bool.and_eq_true] at h;by_cases e:k=n
  ·subst e;exact of_decide_eq_true h.2
  exact QW h.1 k (by omega)
theorem Yx {l:QL} (h:z9 l=0) {p:Nat} (e:p<l.length):zW (qu l p).runs/\∀ t:Nat,0<=zn (qu l p).runs t/\zn (qu l p).runs t<=50:=by
 have d:ZX l=true:=by
  unfold z9 at h
  revert h
  repeat' split
  all_goals simp_all
 have a:=Um.1 d p e;simp only [yR,Bool.and_eq_true] at a;have b:=zX.1 a.1;refine ⟨b,fun t=>?_⟩;obtain ⟨j,c⟩:=V8 b.rises (t:=(t:Int)) (by omega);have:=QW a.2 j c.1;rw [show zn (qu l p).runs t=XJ (qu l p).runs t from rfl,<-c.val b.rises];exact this
theorem Sr {jn:Int->Int->Int} {f g:zd} (c:zW f) (hg:zW g) (h:∀ t,t<48->-1048576<=jn (zn f t) (zn g t)/\jn (zn f t) (zn g t)<=1048576):zW (xl jn f g).1/\(xl jn f g).2=0/\∀ t,t<48->zn (xl jn f g).1 t=jn (zn f t) (zn g t):=by
 have a:wB (jv jn f g) 48=true:=by
  rw [ZL];intro i d;rw [ZA];exact h i d
 have b:xl jn f g=(zD (jv jn f g) 48,0):=by rw [xl,if_pos (by rw [zX.2 c,zX.2 hg];rfl),Yc,if_pos a]
 rw [b];exact ⟨ZP _ 48 (by omega) (by omega) a,rfl,fun t e=>Yj _ a t e⟩
theorem LN {f:zd} (h:zW f) (t:Nat):-1048576<=zn f t/\zn f t<=1048576:=ZA.1 (Tv h (t:Int) (by omega))
def Tl (l:QL) (q t:Nat) (x:Bk):Int:=if (q:Int)∈zK l x.rq.queue then yo x t x.bs.length else 0
theorem L8 (l:QL) (b:BL) (q t:Nat):∀ j,j<=b.length->xh l b q t j=((b.take j).map (Tl l q t)).sum
 | 0,_=>by simp [xh]
 | j+1,hj=>by
  have a:j<b.length:=by omega
  have e:bk b j=b[j]:=by simp [bk,List.getD,a]
  rw [xh,L8 l b q t j (by omega),List.take_succ_eq_append_getElem a,List.map_append,List.sum_append,e];simp [Tl]
theorem XI (l:QL) (b:BL) (q t:Nat):xh l b q t b.length=(b.map (Tl l q t)).sum:=by
 rw [L8 l b q t b.length (Nat.le_refl _),List.take_length]
theorem Ta {b:BL} {i:Nat} (h:i<b.length):bk b i=b[i]:=by simp [bk,List.getD,h]
theorem yx {b:BL} {i:Nat} (h:i<b.length):bk b i∈b:=by rw [Ta h];exact List.getElem_mem h
theorem yT {b:BL} {x:Bk} (h:x∈b):∃ i,i<b.length/\bk b i=x:=by
 obtain ⟨i,a,e⟩:=List.getElem_of_mem h;exact ⟨i,a,by rw [Ta a,e]⟩
theorem Tc {l:QL} {b c:BL} (h:Clean l b) (a:c.length<=12) (g:∀ x∈c,x∈b):Clean l c :=
 ⟨h.tree,a,fun i d=>by
  obtain ⟨j,f,e⟩:=yT (g _ (yx d));rw [<-e];exact h.each j f⟩
theorem Uu {l:QL} {b:BL} (h:Clean l b) {x:Bk} (c:x∈b):meets x.rq x.bs=true/\0<=x.rq.queue/\x.rq.queue<l.length:=by
 obtain ⟨i,a,rfl⟩:=yT c;exact y8 h.tree (h.each i a)
theorem LW {l:QL} {x:Bk} (h:meets x.rq x.bs=true) (q t:Nat):0<=Tl l q t x/\Tl l q t x<=150:=by
 have:=Y6 h t x.bs.length (Nat.le_refl _);have:=Ym h;unfold Tl
 split <;> omega
theorem IX {b:BL} {i:Nat} (h:i<b.length):b=b.take i++bk b i::b.drop (i+1):=by
 rw [Ta h,List.getElem_cons_drop,List.take_append_drop]
theorem JD (l:QL) (q t:Nat) {b:BL} {i:Nat} (h:i<b.length):(b.map (Tl l q t)).sum=Tl l q t (bk b i)+((b.take i++b.drop (i+1)).map (Tl l q t)).sum:=by
 conv=>lhs;rw [IX h]
 simp only [List.map_append,List.map_cons,List.sum_append,List.sum_cons];omega
theorem Pw {l:QL} {b:BL} (h:Clean l b) {q:Nat} (r:q<l.length) {fm:Int} (z:0<=fm) (A:fm<=48) :
 Vk (qu l q).runs (zM l b b.length q) fm=false↔∀ t:Nat,fm<=t->t<48->xh l b q t b.length<=zn (qu l q).runs t:=by
 obtain ⟨c1,c2⟩:=Yx h.tree r;obtain ⟨v,f⟩:=ZT h b.length (Nat.le_refl _) q;have B:=h.few;obtain ⟨j,_,d⟩:=Sr (jn:=fun x y=>x-y) c1 v (fun t u=>by have:=c2 t;have:=f t u;omega);unfold Vk;by_cases e:fm=48
 ·rw [if_pos e];exact ⟨fun _ t n a=>by omega,fun _=>rfl⟩
 ·rw [if_neg e];obtain ⟨g,hg⟩:=qA ((xl (fun x y=>x-y) (qu l q).runs (zM l b b.length q)).1);rw [hg] at j d ⊢;have p:xN g fm 48=(YT (zn g) fm.toNat (48-fm.toNat),0):=by
   unfold xN;rw [if_pos (zX.2 j),if_pos (by simp [Xw];omega)];rfl
  rw [p];have i:=Y9 (zn g) fm.toNat (48-fm.toNat) (by omega);rw [show fm.toNat+(48-fm.toNat)=48 by omega] at i;obtain ⟨k,s,w,c,m⟩:=i;rw [decide_eq_false_iff_not]
  constructor
  ·intro hn t n a;have:=k t (by omega) a;rw [d t a,(f t a).1] at this;simp only at hn;omega
  intro o hn;simp only at hn;have:=o s (by omega) c;rw [m,d s c,(f s c).1] at hn;omega
theorem Rh {l:QL} {T:Nat->zd} {fm:Int}:∀ {n:Nat},Zt l T fm n=true↔∀ q,q<n->Vk (qu l q).runs (T q) fm=false
 | 0=>by simp [Zt]
 | n+1=>by
  simp only [Zt,Bool.and_eq_true,Rh (n:=n),Bool.not_eq_true']
  constructor
  ·rintro ⟨a,b⟩ q c;by_cases e:q=n
   ·subst e;exact b
   exact a q (by omega)
  intro h;exact ⟨fun q c=>h q (by omega),h n (by omega)⟩
theorem Ni {l:QL} {b:BL} (h:Clean l b) {fm:Int} (a:0<=fm) (c:fm<=48):Uy l b fm=0:=by
 unfold Uy;rw [if_pos (Xk h),if_neg (by omega)]
theorem Nj {l:QL} {b:BL} (h:Clean l b) {fm:Int} (c:0<=fm) (d:fm<=48) :
 YS l b fm=true↔∀ q:Nat,q<l.length->∀ t:Nat,fm<=t->t<48->xh l b q t b.length<=zn (qu l q).runs t:=by
 unfold YS;rw [if_pos (Ni h c d),Rh]
 constructor
 ·intro e q a;exact (Pw h a c d).1 (e q a)
 ·intro e q a;exact (Pw h a c d).2 (e q a)
end Go.Proofs.YtckpdfkobdgjeaaGreatDoor
