/- Several texts in one: RunsA, RunsB, RunsC, RunsD, RunsN, RunsM. -/
import Derived.Test.YtckpdfkobdgjeaaGreatDoorProg
import Derived.Test.YtckpdfkobdgjeaaGreatDoorJMath
import Derived.WalkKit
import Derived.WalkSpells
import Derived.WalkLawsBesides
import Derived.Deep.QuietTactic
import Derived.BigQuiet
import Derived.Deep.RegionWith
namespace Go.Proofs.YtckpdfkobdgjeaaGreatDoor
set_option maxHeartbeats 1000000
open Go.RowKit
theorem zm {a b:Bool} (h:a=b):Ending.returned (.bool a)=.returned (.bool b):=by rw [h]
theorem yK {k:IntKind} {a b:Int} (h:a=b):Ending.returned (.int k a)=.returned (.int k b):=by rw [h]
theorem Zc (n:Int) (w:World):zC 152 #[zI n] w fun e w'=>e=.returned (.bool (bdd n))/\w'=w:=by
 go_enter Tryz.func152,Tryz.ntmps152;go_wp2
 all_goals
  go_ret;exact ⟨zm (by simp [bdd];omega),rfl⟩
theorem Vn (a b:Int) (w:World):zC 164 #[zI a,zI b] w fun e w'=>e=.returned (.bool (Xw a b))/\w'=w:=by
 go_enter Tryz.func164,Tryz.ntmps164;go_wp2
 all_goals
  go_ret;refine ⟨zm ?_,rfl⟩;simp only [Xw];rw [Bool.eq_iff_iff];simp
  try omega
structure Mk where
 k:Nat
def Ed [Inhabited Mk] (w:World) (g:Nat):Prop:=g<(default:Mk).k\/∃ cs e,w.heap[g]?=some (.cells cs e (0,0))
theorem Ed.of_eq [Inhabited Mk] {w w':World} {g:Nat} (h:Ed w g) (e:w'.heap[g]?=w.heap[g]?):Ed w' g:=h.imp id fun ⟨cs,t,h⟩=>⟨cs,t,e.trans h⟩
theorem Ed.set [Inhabited Mk] {w:World} {g:Nat} (h:Ed w g) (p:Addr) (u:Value):Ed (w.setCell p u) g:=by
 by_cases e:g=p.block
 ·rcases h with h | ⟨cs,t,h⟩
  ·exact Or.inl h
  subst e;refine Or.inr ⟨if p.spot.isSome then cs else cs.setIfInBounds p.off u,t,?_⟩;simp [World.setCell,Array.getElem?_modify,h]
 exact h.of_eq (Below.heap_setCell w p u g e)
theorem xq {w:World} {a:Addr} {v:Value} (h:w.cell? a=some v):a.block<w.heap.size:=by
 cases g:w.heap[a.block]? with
 | none=>simp [World.cell?,g] at h
 | some o=>exact (Array.getElem?_eq_some_iff.1 g).1
structure RunsIn [Inhabited Mk] (w:World) (a:Option Addr) (n cap:Nat) (l:zd):Prop where
 len:n=l.length
 le:n<=cap
 bound:n<=9223372036854775807
 capb:cap<=9223372036854775807
 cells:0<n->∃ b off,a=zO b off/\∀ i,i<n->w.cell? (zA b (off+i*2))=some (zI (zp l i))/\w.cell? (zA b (off+i*2+1))=some (zI (rN l i))
 thaw:0<n->∀ b off,a=zO b off->Ed w b
set_option linter.unusedSectionVars false
variable [Inhabited Mk]
def Wd (l:zd):Int:=if xe l then 0 else 1
theorem VF (w:World) (b o n d:Nat) (l:zd) (i:Nat) (t:Int) (h:RunsIn w (zO b o) n d l) (q:i<n) :
 zC 171 #[.slice (zO b o) n d,zI i,zI t] w fun e w'=>∃ j:Nat,e=.returned (zI j)/\i<=j/\j<n/\(i<j->zp l j<=t)/\(j+1<n->t<zp l (j+1))/\w'=w:=by
 obtain ⟨hn,m,v,x,a⟩:=h;obtain ⟨u,z,e,a⟩:=a (by omega);cases e
 go_enter Tryz.func171,Tryz.ntmps171;go_wp2;go_loop [1] (fun s=>∃ j:Nat,s=zI j/\i<=j/\j<n/\(i<j->zp l j<=t)) (fun s=>n-(intOf s).toNat)
 case atStart=>exact ⟨i,rfl,Nat.le_refl _,q,fun h=>by omega⟩
 case round =>
  obtain ⟨j,rfl,f,g,k⟩:=hrel;by_cases c:j+1<n
  ·have y:=(a (j+1) c).1;have r:(j:Int)+1<n:=(by omega);clear a hn;go_wp2
   ·have m:zp l (j+1)<=t:=(by assumption);go_round
    case rel=>exact ⟨j+1,by go_num,by omega,c,fun _=>m⟩
    case measure=>simp [intOf];omega
   have p:t<zp l (j+1):=(by assumption);go_ret;exact ⟨j,rfl,f,g,k,fun _=>p,rfl⟩
  have r:¬(j:Int)+1<n:=by omega
  clear a hn;go_wp2;go_ret;exact ⟨j,rfl,f,g,k,fun h=>absurd h c,rfl⟩
theorem Ut {l:zd} {n:Nat} (hn:Zh (n=l.length)) {j:Nat} (b:j<n) (h:¬XW l j):Wd l=1:=by
 have:xe l=false:=Ng.2 fun a=>h (a.2 j (by have:=hn.o;omega));simp [Wd,this]
theorem It {l:zd} {n:Nat} (hn:Zh (n=l.length)) (b:0<n) (h:∀ i,i<n->XW l i):Wd l=0:=by
 have:xe l=true:=zX.2 ⟨by have:=hn.o;omega,fun i a=>h i (by have:=hn.o;omega)⟩;simp [Wd,this]
theorem UI {l:zd} {j:Nat} (h:Zh (∀ i,i<j->XW l i)) (a:XW l j):∀ i,i<j+1->XW l i:=by
 intro i b;by_cases e:i=j
 ·subst e;exact a
 exact h.o i (by omega)
theorem Mg (w:World) (b a n z:Nat) (l:zd) (h:RunsIn w (zO b a) n z l) (y:0<n) :
 zC 100 #[.slice (zO b a) n z] w fun e w'=>e=.returned (zI (Wd l))/\Below w.heap.size w w':=by
 obtain ⟨hn,S,O,P,d⟩:=h;have f:Zh (n=l.length):=hn;clear hn;obtain ⟨I,Y,e,d⟩:=d (by omega);cases e
 have x:=(d 0 y).1;simp only [Nat.zero_mul,Nat.add_zero] at x;have W:(0:Int)<n:=by omega
 have V:((n:Int)==0)=false:=by simp;omega
 have r:b<w.heap.size:=block_lt_of_cell x;by_cases q:zp l 0=0
 ·have G:(zp l 0 != 0)=false:=by simp [q]
  have C:Zh (zp l 0=0):=q;clear q;go_enter Tryz.func100,Tryz.ntmps100;go_wp2;go_loopw [17] (fun s wr=>∃ j:Nat,s=zI j/\j<=n/\(∀ i,i<j->XW l i)/\zL w wr) (fun s _=>n-(intOf s).toNat)
  case atStart=>exact ⟨0,rfl,by omega,fun i Q=>by omega,Below.refl _ _⟩
  obtain ⟨j,rfl,N,B,c⟩:=hrel;have t:Zh (∀ i,i<j->XW l i):=B;clear B;by_cases m:j<n
  ·have H:(j:Int)<n:=(by omega);have D:wr.cell? (zA b (a+j*2))=some (zI (zp l j)):=(c.cell (p:=(zA b (a+j*2))) r).trans (d j m).1;have c1:wr.cell? (zA b (a+j*2+1))=some (zI (rN l j)):=(c.cell (p:=(zA b (a+j*2+1))) r).trans (d j m).2;clear x;have U:b<wr.heap.size:=Nat.lt_of_lt_of_le r c.size;have g:Zh (zL w (wr.alloc (.cells #[zI (zp l j),zI (rN l j)] 55))):=c.alloc c.size _;by_cases M:48<=zp l j
   ·go_wp2;go_ret;exact ⟨yK (Ut f m (fun h=>by have:=h.2.1;omega)).symm,g.o⟩
   cases u:bdd (rN l j) with
   | false =>
    go_wp2_with (go_at_call 152;refine (Zc _ _).mono ?_;rintro e w' ⟨rfl,rfl⟩)
    go_ret;exact ⟨yK (Ut f m (fun h=>by have:=h.2.2.1;simp [u] at this)).symm,g.o⟩
   | true =>
    cases j with
    | zero =>
     have E:decide ((0:Int)<0)=false:=(by decide);simp only [Nat.zero_mul,Nat.add_zero] at D c1;go_wp2_with (go_at_call 152;refine (Zc _ _).mono ?_;rintro e w' ⟨rfl,rfl⟩)
     go_quiet (fail)
     go_wp2;go_roundw
     case rel=>exact ⟨1,rfl,by omega,UI t ⟨fun _=>C.o,by omega,u,fun h=>by omega⟩,below_drewN g.o _⟩
     case measure=>simp [intOf];omega
    | succ k =>
     have E:decide ((0:Int) < ↑k+1)=true:=(by simp);have R:(k:Int)<n:=(by omega);have X:IntKind.i64.wrap (k:Int)=k:=(by rw [IntKind.wrap_i64];omega);have J:wr.cell? (zA b (a+k*2))=some (zI (zp l k)):=(c.cell (p:=(zA b (a+k*2))) r).trans (d k (by omega)).1;have L:wr.cell? (zA b (a+k*2+1))=some (zI (rN l k)):=(c.cell (p:=(zA b (a+k*2+1))) r).trans (d k (by omega)).2;by_cases A:zp l (k+1)<=zp l k
     ·have F:decide (zp l (k+1)<=zp l k)=true:=(by simpa using A);go_wp2_with (go_at_call 152;refine (Zc _ _).mono ?_;rintro e w' ⟨rfl,rfl⟩)
      go_quiet (fail)
      go_wp2;go_ret;exact ⟨yK (Ut f m (fun h=>by have:=(h.2.2.2 (by omega)).1;simp only [Nat.add_sub_cancel] at this;omega)).symm,below_drewN g.o _⟩
     ·have F:decide (zp l (k+1)<=zp l k)=false:=(by simpa using A);go_wp2_with (go_at_call 152;refine (Zc _ _).mono ?_;rintro e w' ⟨rfl,rfl⟩)
      go_quiet (fail)
      go_wp2
      ·have v:(rN l (k+1)==rN l k)=true:=(by assumption);go_ret;exact ⟨yK (Ut f m (fun h=>by have:=(h.2.2.2 (by omega)).2;simp only [Nat.add_sub_cancel] at this;exact this (eq_of_beq v))).symm,below_drewN g.o _⟩
      have v:(rN l (k+1)==rN l k)=false:=(by assumption);go_roundw
      case rel=>exact ⟨k+1+1,by go_num,by omega,UI t ⟨fun h=>by omega,by omega,u,fun _=>⟨by simp only [Nat.add_sub_cancel];omega,by simp only [Nat.add_sub_cancel];exact ne_of_beq_false v⟩⟩,below_drewN g.o _⟩
      case measure=>simp [intOf];omega
  have H:¬(j:Int)<n:=by omega
  obtain rfl:j=n:=by omega
  go_wp2;go_ret;exact ⟨yK (It f y t.o).symm,c⟩
 ·have G:(zp l 0 != 0)=true:=by simp [q]
  go_enter Tryz.func100,Tryz.ntmps100;go_wp2;go_ret;exact ⟨yK (Ut f y (fun h=>q (h.1 rfl))).symm,Below.refl _ _⟩
theorem Mf (w:World) (a:Option Addr) (b:Nat) :
 zC 100 #[.slice a 0 b] w fun e w'=>e=.returned (zI (Wd []))/\w'=w:=by
 go_enter Tryz.func100,Tryz.ntmps100;go_wp2;go_ret;exact ⟨yK (by rfl),rfl⟩
theorem yg (w:World) (a:Option Addr) (n c:Nat) (l:zd) (h:RunsIn w a n c l) :
 zC 100 #[.slice a n c] w fun e w'=>e=.returned (zI (Wd l))/\Below w.heap.size w w':=by
 by_cases d:0<n
 ·obtain ⟨b,f,rfl,_⟩:=h.cells d;exact Mg w b f n c l h d
 ·obtain rfl:n=0:=by omega
  obtain rfl:l=[]:=by have:=h.len;exact List.eq_nil_of_length_eq_zero this.symm
  refine (Mf w a c).mono ?_;rintro e w' ⟨rfl,rfl⟩;exact ⟨rfl,Below.refl _ _⟩
theorem WQ {l:zd} {n:Nat} (hn:Zh (n=l.length)) {j:Nat} (b:j<n) (h:¬XW l j):xe l=false :=
 Ng.2 fun a=>h (a.2 j (by have:=hn.o;omega))
theorem KZ {l:zd} {n:Nat} (hn:Zh (n=l.length)) (b:0<n) (h:∀ i,i<n->XW l i):xe l=true :=
 zX.2 ⟨by have:=hn.o;omega,fun i a=>h i (by have:=hn.o;omega)⟩
theorem Kk {l:zd} {j:Nat} (h:∀ i,i<j->XW l i):∀ i,i<j->0<=zp l i:=by
 intro i
 induction i with
 | zero=>intro a;rw [(h 0 a).1 rfl];exact Int.le_refl _
 | succ i ih =>
  intro a;have c:=ih (by omega);have b:=((h (i+1) a).2.2.2 (by omega)).1;simp only [Nat.add_sub_cancel] at b;omega
theorem Hg {l:zd} {j:Nat} (h:Zh (∀ i,i<j->XW l i)) (b:yW (zp l j) 0 47=false):¬XW l j:=by
 intro a;have c:=Kk (UI h a) j (by omega);have d:=a.2.1;simp [yW] at b;omega
theorem xM {w wr:World} (h:Zh (∃ d,wr=w.drewN d)) (n:Nat):∃ d,wr.drewN n=w.drewN d:=by
 obtain ⟨d,rfl⟩:=h.o;exact ⟨d+n,by rw [World.drewN_drewN]⟩
theorem RunsIn.of_away {w w':World} {a:Option Addr} {n f:Nat} {l:zd} (h:RunsIn w a n f l) (j:0<n->∀ b c,a=zO b c->w'.heap[b]?=w.heap[b]?):RunsIn w' a n f l:=by
 refine ⟨h.len,h.le,h.bound,h.capb,fun d=>?_,fun d b c e=>(h.thaw d b c e).of_eq (j d b c e)⟩;obtain ⟨b,c,g,k⟩:=h.cells d;have e:=j d b c g;exact ⟨b,c,g,fun i m=>⟨(World.cell?_of_block (w:=w) (a:=(zA b (c+i*2))) e).trans (k i m).1,(World.cell?_of_block (w:=w) (a:=(zA b (c+i*2+1))) e).trans (k i m).2⟩⟩
theorem RunsIn.lt {w:World} {a:Option Addr} {n f:Nat} {l:zd} (h:RunsIn w a n f l) (d:0<n) {b i:Nat} (e:a=zO b i):b<w.heap.size:=by
 obtain ⟨j,k,c,g⟩:=h.cells d;rw [e] at c;cases c
 exact xq (g 0 d).1
theorem RunsIn.later {w w':World} {a:Option Addr} {n c:Nat} {l:zd} (h:RunsIn w a n c l) (d:Below w.heap.size w w'):RunsIn w' a n c l:=h.of_away fun f b _ e=>d.block b (h.lt f e)
theorem yM {w w':World} (h:∃ d,w'=w.drewN d):Below w.heap.size w w':=by
 obtain ⟨d,rfl⟩:=h;exact below_drewN (Below.refl _ _) d
theorem za {w a c:World} (b:Below w.heap.size w a) (d:Below a.heap.size a c):Below w.heap.size w c:=b.trans (d.mono b.size)
def Yv (l:zd) (t:Int):Int×Int:=if xe l=true then (if yW t 0 47=true then (XJ l t,0) else (0,3)) else (0,1)
def YT (v:Nat->Int) (a:Nat):Nat->Int
 | 0=>v a
 | k+1=>min (YT v a k) (v (a+k))
def OK (v:Nat->Int) (a b:Nat) (n:Int):Prop:=(∀ t,a<=t->t<b->n<=v t)/\∃ t,a<=t/\t<b/\n=v t
theorem Y9 (v:Nat->Int) (a:Nat):∀ k,0<k->OK v a (a+k) (YT v a k)
 | 0,h=>by omega
 | 1,_=>⟨fun t b g=>by
  obtain rfl:t=a:=by omega
  simp [YT],a,by omega,by omega,by simp [YT]⟩
 | k+2,_=>by
  obtain ⟨b,t,d,j,f⟩:=Y9 v a (k+1) (by omega);rw [YT];refine ⟨fun s c i=>?_,?_⟩
  ·by_cases e:s=a+(k+1)
   ·subst e;omega
   have:=b s c (by omega);omega
  by_cases e:YT v a (k+1)<=v (a+(k+1))
  ·exact ⟨t,d,by omega,by rw [<-f];omega⟩
  exact ⟨a+(k+1),by omega,by omega,by omega⟩
theorem OK.eq {v:Nat->Int} {a b:Nat} {n m:Int} (c:OK v a b n) (d:OK v a b m):n=m:=by
 obtain ⟨e,t,i,j,l⟩:=c;obtain ⟨f,s,g,h,k⟩:=d;have:=e s g h;have:=f t i j;omega
def zn (l:zd) (t:Nat):Int:=XJ l (t:Int)
def xN (l:zd) (a b:Int):Int×Int:=if xe l=true then (if Xw a b=true then (YT (zn l) a.toNat (b.toNat-a.toNat),0) else (0,3)) else (0,1)
def VJ (l:zd) (i m:Nat) (b n:Int):Prop:=n<=rN l i/\(∀ k,i<k->k<m->zp l k<b->n<=rN l k)/\∃ k,k<l.length/\(k=i\/(i<k/\zp l k<b))/\n=rN l k
theorem yH.mono {l:zd} (c:Xy l) {s t:Int} {i k:Nat} (a:yH l s i) (b:yH l t k) (h:s<=t):i<=k:=by
 by_cases e:i<=k
 ·exact e
 have:=b.2.2 (by have:=a.1;omega);have:=c.le (i:=k+1) (j:=i) (by omega) a.1;have:=a.2.1;omega
theorem VJ.low {l:zd} (c:zW l) {i:Nat} {a b:Nat} {n:Int} (s:a<b) (f:yH l (a:Int) i) (h:VJ l i l.length b n):OK (zn l) a b n:=by
 obtain ⟨p,q,k,g,u,o⟩:=h;refine ⟨fun t A B=>?_,?_⟩
 ·obtain ⟨m,d⟩:=V8 c.rises (t:=(t:Int)) (by omega);have y:=yH.mono c.rises f d (by omega);show n<=XJ l t;rw [<-d.val c.rises];by_cases e:i=m
  ·subst e;exact p
  exact q m (by omega) d.1 (by have:=d.2.1;omega)
 rcases u with rfl | ⟨x,z⟩
 ·exact ⟨a,by omega,s,by show n=XJ l a;rw [o,f.val c.rises]⟩
 have v:=f.2.2 (by omega);have w:=c.le (i:=i+1) (j:=k) (by omega) g;have r:yH l (zp l k) k:=⟨g,Int.le_refl _,fun h=>c.lt h⟩;refine ⟨(zp l k).toNat,by omega,by omega,?_⟩;show n=XJ l ((zp l k).toNat:Int);rw [Int.toNat_of_nonneg (by omega),o,r.val c.rises]
theorem VJ.start (l:zd) (i:Nat) (b:Int) (a:i<l.length):VJ l i (i+1) b (rN l i) :=
 ⟨Int.le_refl _,fun k c d=>by omega,i,a,Or.inl rfl,rfl⟩
theorem VJ.skip {l:zd} {i m:Nat} {b n:Int} (h:VJ l i m b n) (f:¬zp l m<b):VJ l i (m+1) b n :=
 ⟨h.1,fun k a d c=>by
  by_cases e:k=m
  ·subst e;omega
  exact h.2.1 k a (by omega) c,h.2.2⟩
theorem VJ.take {l:zd} {i m:Nat} {b n:Int} (h:VJ l i m b n) (f:i<m) (o:m<l.length) (p:zp l m<b):VJ l i (m+1) b (min n (rN l m)):=by
 obtain ⟨q,a,k,g,j,s⟩:=h;refine ⟨by omega,fun k c r d=>?_,?_⟩
 ·by_cases e:k=m
  ·subst e;omega
  have:=a k c (by omega) d;omega
 by_cases e:n<=rN l m
 ·exact ⟨k,g,j,by omega⟩
 exact ⟨m,o,Or.inr ⟨f,p⟩,by omega⟩
theorem Fq (x y:Int):(if y<x then y else x)=min x y:=by rw [Int.min_def];split <;> split <;> omega
theorem QJ (w:World) (a:Option Addr) (n k:Nat) (l:zd) (d c:Int) (h:RunsIn w a n k l) :
 zC 138 #[.slice a n k,zI d,zI c] w fun e w'=>e=.returned (.tuple #[zI (xN l d c).1,zI (xN l d c).2])/\Below w.heap.size w w':=by
 cases t:xe l with
 | false =>
  have y:xN l d c=(0,1):=by simp [xN,t]
  have C:Wd l=1:=by simp [Wd,t]
  rw [y];go_enter Tryz.func138,Tryz.ntmps138;go_wp2_with (go_at_call 100;refine (yg _ a n k l h).mono ?_;rintro e w' ⟨rfl,f⟩;rw [C])
  go_ret2
  exact ⟨rfl,f⟩
 | true =>
  have C:Wd l=0:=by simp [Wd,t]
  cases v:Xw d c with
  | false =>
   have y:xN l d c=(0,3):=(by simp [xN,t,v]);rw [y];go_enter Tryz.func138,Tryz.ntmps138;go_wp2_with (first | (go_at_call 100;refine (yg _ a n k l h).mono ?_;rintro e w' ⟨rfl,f⟩;rw [C]) | (go_at_call 164;refine (Vn _ _ _).mono ?_;rintro e w' ⟨rfl,rfl⟩;rw [v]))
   go_ret2
   exact ⟨rfl,f⟩
  | true =>
   have F:=zX.1 t;have y:xN l d c=(YT (zn l) d.toNat (c.toNat-d.toNat),0):=(by simp [xN,t,v]);rw [y];have P:=v;simp [Xw] at P;obtain ⟨S,ag,ah⟩:=P;have H:=h.len;have I:0<n:=(by rw [H];exact F.1);obtain ⟨b,g,rfl,G⟩:=h.cells I;have p:Zh (n=l.length):=H;clear H;have aa:=h.le;have X:=h.bound;have Y:=h.capb;generalize u:YT (zn l) d.toNat (c.toNat-d.toNat)=low;have J:Zh (∀ x i,yH l d i->VJ l i n c x->x=low):=by
    intro x i D Q;rw [p.o] at Q;have:=VJ.low (a:=d.toNat) (b:=c.toNat) F (by omega) (by rw [Int.toNat_of_nonneg S];exact D) (by rw [Int.toNat_of_nonneg (by omega)];exact Q);have A:=Y9 (zn l) d.toNat (c.toNat-d.toNat) (by omega);rw [show d.toNat+(c.toNat-d.toNat)=c.toNat from by omega,u] at A;exact this.eq A
   clear u;go_enter Tryz.func138,Tryz.ntmps138;go_wp2_with (first | (go_at_call 100;refine (yg _ _ n k l h).mono ?_;rintro e w' ⟨rfl,f⟩;rw [C]) | (go_at_call 164;refine (Vn _ _ _).mono ?_;rintro e w' ⟨rfl,rfl⟩;rw [v]))
   refine (VF _ b g n k l 0 d (h.later f) I).mono ?_;rintro e z ⟨j,rfl,W,A,L,M,rfl⟩;have D:Zh (yH l d j):=⟨by have:=p.o;omega,by
    by_cases e:0<j
    ·exact L e
    obtain rfl:j=0:=(by omega);rw [F.at0];omega,fun h=>M (by have:=p.o;omega)⟩
   have B:Zh (∀ i,i<n->z.cell? (zA b (g+i*2))=some (zI (zp l i))/\z.cell? (zA b (g+i*2+1))=some (zI (rN l i))):=fun i c=>⟨cell_later f (G i c).1,cell_later f (G i c).2⟩;have ab:b<z.heap.size:=block_lt_of_cell (B.o 0 I).1;have V:=(B.o j A).2;have Z:(j:Int)<n:=(by omega);clear L M G;by_cases R:k=j+1
   ·obtain rfl:n=j+1:=(by omega);subst R;go_wp2;go_loop [10,35] (fun m s=>m=zI (rN l j)/\s=zI 0) (fun _ _=>0)
    case atStart=>exact ⟨rfl,rfl⟩
    obtain ⟨rfl,rfl⟩:=hrel;go_wp2;go_ret2
    rw [J.o _ _ D.o (VJ.start l j c (by have:=p.o;omega))];exact ⟨rfl,f⟩
   go_wp2;go_loopw [10,35] (fun m s wr=>∃ (q:Nat) (x:Int),s=zI q/\m=zI x/\q<=n-(j+1)/\VJ l j (j+1+q) c x/\zL z wr) (fun _ s _=>n-(intOf s).toNat)
   case atStart=>exact ⟨0,rN l j,rfl,rfl,by omega,VJ.start l j c (by have:=p.o;omega),Below.refl _ _⟩
   obtain ⟨q,x,rfl,rfl,ae,u,r⟩:=hrel;have E:Zh (VJ l j (j+1+q) c x):=u;clear u;by_cases ad:q<n-(j+1)
   ·have af:(q:Int)<(n:Int)-(↑j+1):=(by omega);have U:wr.cell? (zA b (g+(j+1)*2+q*2))=some (zI (zp l (j+1+q))):=by
     have:=cell_later r (B.o (j+1+q) (by omega)).1;rw [show g+(j+1)*2+q*2=g+(j+1+q)*2 from by omega];exact this
    have c1:wr.cell? (zA b (g+(j+1)*2+q*2+1))=some (zI (rN l (j+1+q))):=by
     have:=cell_later r (B.o (j+1+q) (by omega)).2;rw [show g+(j+1)*2+q*2=g+(j+1+q)*2 from by omega];exact this
    have N:Zh (zL z (wr.alloc (.cells #[zI (zp l (j+1+q)),zI (rN l (j+1+q))] 55))):=r.alloc r.size _;clear r;go_wp2
    ·have O:zp l (j+1+q)<c:=(by assumption);go_roundw
     case rel=>exact ⟨q+1,_,by go_num,rfl,by omega,by rw [Fq];exact E.o.take (by omega) (by have:=p.o;omega) O,N.o⟩
     case measure=>simp [intOf];omega
    have O:c<=zp l (j+1+q):=(by assumption);go_roundw
    case rel=>exact ⟨q+1,_,by go_num,rfl,by omega,E.o.skip (by omega),N.o⟩
    case measure=>simp [intOf];omega
   obtain rfl:q=n-(j+1):=(by omega);go_wp2;go_ret2
   have:=E.o;rw [show j+1+(n-(j+1))=n from by omega] at this;rw [J.o _ _ D.o this];exact ⟨rfl,za f r⟩
theorem Qt (w:World) (p q:Option Addr) (n x y:Nat) (l:zd) (f:RunsIn w p n x l) (A:RunsIn w q n y l) :
 zC 28 #[.slice p n x,.slice q n y] w fun e w'=>e=.returned (.bool true)/\∃ d,w'=w.drewN d:=by
 have L:=f.le;have G:=f.bound;have H:=f.capb;have C:Zh (0<n->∃ b1 t b u,p=zO b1 t/\q=zO b u/\(∀ i,i<n->w.cell? (zA b1 (t+i*2))=some (zI (zp l i))/\w.cell? (zA b1 (t+i*2+1))=some (zI (rN l i)))/\(∀ i,i<n->w.cell? (zA b (u+i*2))=some (zI (zp l i))/\w.cell? (zA b (u+i*2+1))=some (zI (rN l i)))):=by
  intro h;obtain ⟨b1,k,z,c1⟩:=f.cells h;obtain ⟨b,m,B,c2⟩:=A.cells h;exact ⟨b1,k,b,m,z,B,c1,c2⟩
 clear f A;have M:((n:Int) != n)=false:=by simp
 by_cases h:0<n
 ·obtain ⟨b1,k,b,m,rfl,rfl,c1,c2⟩:=C.o h;go_enter Tryz.func28,Tryz.ntmps28;go_wp2;go_loopw [5] (fun s wr=>∃ j:Nat,s=zI j/\j<=n/\∃ d,wr=w.drewN d) (fun s _=>n-(intOf s).toNat)
  case atStart=>exact ⟨0,rfl,by omega,0,rfl⟩
  obtain ⟨j,rfl,J,r⟩:=hrel;have v:Zh (∃ d,wr=w.drewN d):=r;have c:∀ a,wr.cell? a=w.cell? a:=by obtain ⟨d,rfl⟩:=r;exact fun a=>rfl
  clear r;by_cases g:j<n
  ·have I:(j:Int)<n:=(by omega);have D:wr.cell? (zA b1 (k+j*2))=some (zI (zp l j)):=(c _).trans (c1 j g).1;have E:wr.cell? (zA b1 (k+j*2+1))=some (zI (rN l j)):=(c _).trans (c1 j g).2;have F:wr.cell? (zA b (m+j*2))=some (zI (zp l j)):=(c _).trans (c2 j g).1;have z:wr.cell? (zA b (m+j*2+1))=some (zI (rN l j)):=(c _).trans (c2 j g).2;clear c c1 c2;go_wp2;go_quiet (fail)
   go_wp2;go_roundw
   case rel=>exact ⟨j+1,by go_num,by omega,xM v _⟩
   case measure=>simp [intOf];omega
  obtain rfl:j=n:=by omega
  clear c c1 c2;go_wp2;go_ret;exact ⟨rfl,v.o⟩
 ·obtain rfl:n=0:=by omega
  go_enter Tryz.func28,Tryz.ntmps28;go_wp2;go_loop [5] (fun s=>s=zI 0) (fun _=>0)
  case atStart=>rfl
  subst hrel;go_wp2;go_ret;exact ⟨rfl,0,rfl⟩
def cellsOf:zd->List Value
 | []=>[]
 | r::l=>zI r.1::zI r.2::cellsOf l
theorem xL:∀ l:zd,(cellsOf l).length=l.length*2
 | []=>rfl
 | r::l=>by simp [cellsOf,xL l];omega
theorem YD:∀ (l:zd) (x:Int×Int),cellsOf (l++[x])=cellsOf l++[zI x.1,zI x.2]
 | [],x=>rfl
 | r::l,x=>by simp [cellsOf,YD l x]
theorem xr:∀ (l:zd) (i:Nat),i<l.length->(cellsOf l)[i*2]?=some (zI (zp l i))
 | [],i,h=>by simp at h
 | r::l,0,_=>by simp [cellsOf,zp]
 | r::l,i+1,h=>by
  have:=xr l i (by simpa using h);rw [show (i+1)*2=i*2+1+1 from by omega];simpa [cellsOf,zp] using this
theorem xJ:∀ (l:zd) (i:Nat),i<l.length->(cellsOf l)[i*2+1]?=some (zI (rN l i))
 | [],i,h=>by simp at h
 | r::l,0,_=>by simp [cellsOf,rN]
 | r::l,i+1,h=>by
  have:=xJ l i (by simpa using h);rw [show (i+1)*2+1=i*2+1+1+1 from by omega];simpa [cellsOf,rN] using this
def YU (w:World) (B:Nat) (v:Value) (l:zd):Prop:=w.ownsRow B 55 2 v l.length (cellsOf l)
theorem YU.parts {w:World} {B:Nat} {v:Value} {l:zd} (h:YU w B v l) (q:l.length<=48) :
 ∃ a c,v=.slice a l.length c/\RunsIn w a l.length c l/\(l=[]->v=.slice none 0 0\/True)/\(0<l.length->∃ g,a=zO g 0/\B<=g/\g<w.heap.size):=by
 have m:=h;rcases m.2 with ⟨d,hn⟩ | ⟨g,c,k,d,hg,f,p,n,r,s⟩
 ·have o:l=[]:=List.eq_nil_of_length_eq_zero hn;subst o;exact ⟨none,0,by simpa using d,⟨rfl,Nat.le_refl _,by simp,by simp,fun h=>by simp at h,fun h=>by simp at h⟩,fun _=>Or.inr trivial,fun h=>by simp at h⟩
 ·subst d;refine ⟨zO g 0,c,rfl,⟨rfl,p,by omega,n,fun _=>⟨g,0,rfl,fun i j=>⟨?_,?_⟩⟩,fun _ b t e=>by cases e;exact Or.inr ⟨k,_,f⟩⟩,fun _=>Or.inr trivial,fun _=>⟨g,rfl,hg,?_⟩⟩
  ·rw [Nat.zero_add];exact (World.ownsRow.cellAt h (i*2) (by omega)).trans (xr l i j)
  ·rw [Nat.zero_add];exact (World.ownsRow.cellAt h (i*2+1) (by omega)).trans (xJ l i j)
  exact (Array.getElem?_eq_some_iff.1 f).1
theorem XG (w:World) (p q:Value) (t:TypeId):∀ (j:Nat) (u:Value),[p,q][j]?=some u->(w.alloc (.cells #[p,q] t)).cell? (((zA w.heap.size 0):Addr).add j)=some u:=by
 intro j u a
 match j,a with
 | 0,a=>simp at a;subst a;simp [Addr.add]
 | 1,a=>simp at a;subst a;simp [Addr.add]
theorem XH (p q:Int):∀ u∈[Value.int .i64 p,Value.int .i64 q],u.oneCell'=true:=by
 intro u a;simp at a;rcases a with rfl | rfl <;> rfl
theorem Ri (v:Nat->Int) (n:Nat):(zD v n).length<=n:=by
 by_cases h:n=0
 ·subst h;simp [zD]
 exact (Yi v n (by omega)).2.2.2
theorem NK {f:Nat->Int} {t:Nat} {x:Int} {B:Nat} {w b a:World} {v c:Value} {o:Obj} (n:f t=x) (i:t=0\/f (t-1)≠f t) (g:Below B w b) (d:B<=b.heap.size)
 (m:YU b B v (zD f t))
 (l:a.ownsRow B 55 2 c ((zD f t).length+1) (cellsOf (zD f t)++[zI t,zI x])) (hg:(b.alloc o).grownBy a v.ownBlock) :
 YU a B c (zD f (t+1))/\Below B w a/\B<=a.heap.size:=by
 have e:zD f (t+1)=zD f t++[((t:Int),x)]:=by rw [zD,if_pos i,n]
 have h:Below B w a:=(g.alloc d o).grown hg (by simp;omega) (fun k j=>(m.lt k j).1);refine ⟨?_,h,?_⟩
 ·unfold YU;rw [e,YD];simpa using l
 ·have:=hg.size;simp at this;omega
theorem IV {f:Nat->Int} {t:Nat} (a:t≠0) (b:f (t-1)=f t):zD f (t+1)=zD f t:=by
 rw [zD,if_neg (by rintro (h | h);exact a h;exact h b)]
theorem Tryz.info56:(Tryz.prog.info? 55).map (fun i=>(i.zero,i.size,i.bytes))=some (some (.agg #[zI 0,zI 0]),2,16):=by kernel_rfl
def ZV (k:Nat) (jn:Int->Int->Int):Prop :=
 (∀ (args:Array Value) (w:World),(callFunc k args).run Tryz.prog w=.ok (.enter k args) w) /\
 ∀ (x y:Int) (w:World),bdd x=true->bdd y=true->zC k #[zI x,zI y] w fun e w'=>e=.returned (zI (jn x y))/\w'=w
def jv (jn:Int->Int->Int) (l1 l2:zd) (t:Nat):Int:=jn (zn l1 t) (zn l2 t)
theorem LR (k:Nat) (jn:Int->Int->Int) (aj:ZV k jn) (w:World) (b1 V n ag P W p ah:Nat) (b c:zd) (G:RunsIn w (zO b1 V) n ag b) (H:RunsIn w (zO P W) p ah c)
 (X:Xy b) (Y:Xy c) (au:∀ i,i<n->bdd (rN b i)=true) (av:∀ i,i<p->bdd (rN c i)=true) :
 zC 165 #[.slice (zO b1 V) n ag,.slice (zO P W) p ah,.func (.func k) #[] #[]] w fun e w' =>
  (wB (jv jn b c) 48=true/\∃ v,e=.returned (.tuple #[v,zI 0])/\YU w' w.heap.size v (zD (jv jn b c) 48)/\Below w.heap.size w w') \/
  (wB (jv jn b c) 48=false/\e=.returned (.tuple #[zN,zI 2])/\Below w.heap.size w w'):=by
 have ab:Zh (n=b.length):=G.len;have ad:Zh (p=c.length):=H.len;have aI:0<n:=by rw [ab.o];exact X.1
 have aJ:0<p:=by rw [ad.o];exact Y.1
 have aK:=G.cells aI;have aL:=H.cells aJ;obtain ⟨a9,bt,e,c1⟩:=aK;cases e
 obtain ⟨ba,bu,e,c2⟩:=aL;cases e
 have bq:=G.le;have br:=H.le;have bb:=G.bound;have bc:=H.bound;have aM:=zh c1;have aN:=zh c2;have aO:=zh au;have aP:=zh av;clear c1 c2 au av;obtain ⟨bl,aZ⟩:=aj;go_enter Tryz.func165,Tryz.ntmps165;go_wp2;go_loopw [8,9,10,13] (fun v a4 a5 ao wr=>∃ (t i j:Nat),ao=zI t/\t<=48/\a4=zI i/\a5=zI j/\i<n/\j<p/\zp b i<=t/\zp c j<=t/\wB (jv jn b c) t=true/\YU wr w.heap.size v (zD (jv jn b c) t)/\(t=0->v=.slice none 0 0)/\zL w wr) (fun _ _ _ ao _=>48-(intOf ao).toNat)
 case atStart=>exact ⟨0,0,0,rfl,by omega,rfl,rfl,aI,aJ,by rw [X.2.1];exact Int.le_refl _,by rw [Y.2.1];exact Int.le_refl _,rfl,World.ownsRow_nil _ _ _ _,fun _=>rfl,Below.refl _ _⟩
 case round =>
  obtain ⟨t,i,j,rfl,bp,rfl,rfl,aY,aj,aR,aS,R,U,al,S⟩:=hrel;by_cases a0:t<48
  ·have bm:(t:Int)<48:=(by omega);have Z:=zh R;have O:=zh U;have ar:=zh al;have l:=zh S;clear R U al S;go_wp2_with fail
   refine (VF _ b1 V n ag b i t (G.later l.o) aY).mono ?_;rintro e z ⟨d,rfl,be,C,E,F,rfl⟩;have ae:Zh (yH b t d):=⟨by have:=ab.o;omega,by
    by_cases e:i<d
    ·exact E e
    obtain rfl:i=d:=(by omega);exact aR,fun h=>F (by have:=ab.o;omega)⟩
   clear E F;go_wp2_with fail
   refine (VF _ P W p ah c j t (H.later l.o) aj).mono ?_;rintro e z ⟨f,rfl,bf,D,E,F,rfl⟩;have af:Zh (yH c t f):=⟨by have:=ad.o;omega,by
    by_cases e:j<f
    ·exact E e
    obtain rfl:j=f:=(by omega);exact aS,fun h=>F (by have:=ad.o;omega)⟩
   clear E F;have aT:z.cell? (zA b1 (V+d*2+1))=some (zI (zn b t)):=(cell_later l.o (aM.o d C).2).trans (by rw [ae.o.val X];rfl);have aU:z.cell? (zA P (W+f*2+1))=some (zI (zn c t)):=(cell_later l.o (aN.o f D).2).trans (by rw [af.o.val Y];rfl);have a2:Zh (bdd (zn b t)=true):=(by show bdd (XJ b t)=true;rw [<-ae.o.val X];exact aO.o d C);have a3:Zh (bdd (zn c t)=true):=(by show bdd (XJ c t)=true;rw [<-af.o.val Y];exact aP.o f D);have bi:(d:Int)<n:=(by omega);have bj:(f:Int)<p:=(by omega);go_wp2;go_quiet ((exact Calls.quiet_of_same (aZ _ _ _ a2.o a3.o)))
   go_wp2_with fail
   obtain ⟨x,am⟩:=qA (jn (zn b t) (zn c t));rw [am];have r:Zh (jv jn b c t=x):=am;clear am;refine (Zc _ _).mono ?_;rintro e N ⟨rfl,rfl⟩;cases aA:bdd x with
   | false =>
    go_wp2;go_ret2
    refine Or.inr ⟨?_,rfl,below_drewN l.o _⟩;cases ai:wB (jv jn b c) 48 with
    | false=>rfl
    | true =>
     have:=(ZL _ 48).1 ai t a0;rw [r.o,aA] at this;cases this
   | true =>
    have aa:Zh (wB (jv jn b c) (t+1)=true):=by
     show wB (jv jn b c) (t+1)=true;rw [wB,Z.o,r.o,aA];rfl
    have A:Zh (zL w (z.drewN nq)):=below_drewN l.o _;have q:Zh (YU (z.drewN nq) w.heap.size u8 (zD (jv jn b c) t)):=O.o;generalize aD:z.drewN nq=N;rw [aD] at A q;clear aD aT aU O l;have u:Zh (zp b d<=((t+1:Nat):Int)/\zp c f<=((t+1:Nat):Int)):=⟨by have:=ae.o.2.1;omega,by have:=af.o.2.1;omega⟩;obtain ⟨aH,aB,aE,aF,aG⟩:=info_parts Tryz.info56;have ay:w.heap.size<=N.heap.size:=A.o.size;cases t with
    | zero =>
     obtain rfl:=ar.o rfl;clear ar;have M:True:=trivial;go_wp2_with (at_builtin;have _t:=M;refine wpList_append_own _ rfl _ _ 25 rfl w.heap.size 55 aH (.agg #[zI 0,zI 0]) 2 16 Tryz.underlying25 aB aE aF aG rfl (by decide) _ _ _ rfl (q.o.alloc _) (zA N.heap.size 0) 1 1 [zI 0,zI x] rfl rfl ?c1 ?c2 ?c3 ?c4 ?c5 ?_;clear M)
     case c1=>exact XG _ _ _ _
     case c2=>exact XH _ _
     case c3=>simp [zD,maxLen]
     case c4=>simp [zD]
     case c5=>simp;omega
     intro a6 a7 J I _;have B:=zh (NK (t:=0) r.o (Or.inl rfl) A.o ay q.o J I);clear J I;go_wp2;go_roundw
     case rel=>exact ⟨1,d,f,rfl,by omega,rfl,rfl,C,D,u.o.1,u.o.2,aa.o,B.o.1,fun h=>by omega,B.o.2.1⟩
     case measure=>simp [intOf]
    | succ s =>
     obtain ⟨aw,Q,aW,ax⟩:=Yi (jv jn b c) (s+1) (by omega);obtain ⟨a,bd,aC,az,_,hg⟩:=YU.parts q.o (by omega);obtain ⟨g,aX,bg,bh⟩:=hg aw;obtain ⟨m,ak⟩:∃ m,(zD (jv jn b c) (s+1)).length=m+1:=⟨(zD (jv jn b c) (s+1)).length-1,by omega⟩;have ap:=zh ak;rw [ak] at Q ax aC;subst aX;subst aC;have aV:N.cell? (zA g (m*2+1))=some (zI (jv jn b c s)):=by
      obtain ⟨a8,bs,e,ai⟩:=az.cells (by omega);cases e
      have:=(ai m (by omega)).2;rw [Nat.zero_add] at this;rw [this];simp only [Nat.add_sub_cancel] at Q;rw [Q]
     have bo:(((m:Int)+1)==0)=false:=beq_eq_false_iff_ne.2 (by omega);have bn:m<48:=(by omega);clear aw Q aW ax ak az;obtain ⟨y,an⟩:=qA (jv jn b c s);rw [an] at aV;have aq:=zh an;clear an;have M:True:=trivial;by_cases L:y=x
     ·have a1:(y != x)=false:=(by simp [L]);have aQ:=zh L;clear L;go_wp2;go_roundw
      case rel=>exact ⟨s+1+1,d,f,by go_num,by omega,rfl,rfl,C,D,u.o.1,u.o.2,aa.o,by rw [IV (by omega) (by simp only [Nat.add_sub_cancel];rw [aq.o,r.o];exact aQ.o)];exact q.o,fun h=>by omega,A.o⟩
      case measure=>simp [intOf];omega
     have a1:(y != x)=true:=(by simp [L]);go_wp2_with (at_builtin;have _t:=M;refine wpList_append_own _ rfl _ _ 25 rfl w.heap.size 55 aH (.agg #[zI 0,zI 0]) 2 16 Tryz.underlying25 aB aE aF aG rfl (by decide) _ _ _ rfl (q.o.alloc _) (zA N.heap.size 0) 1 1 [zI ((s:Int)+1),zI x] rfl rfl ?c1 ?c2 ?c3 ?c4 ?c5 ?_;clear M)
     case c1=>exact XG _ _ _ _
     case c2=>exact XH _ _
     case c3=>have:=ap.o;simp only [maxLen];omega
     case c4=>have:=ap.o;omega
     case c5=>simp;omega
     intro a6 a7 J I _;have B:=zh (NK (t:=s+1) r.o (Or.inr (by simp only [Nat.add_sub_cancel];rw [aq.o,r.o];exact L)) A.o ay q.o J I);clear J I;go_wp2;go_roundw
     case rel=>exact ⟨s+1+1,d,f,by go_num,by omega,rfl,rfl,C,D,u.o.1,u.o.2,aa.o,B.o.1,fun h=>by omega,B.o.2.1⟩
     case measure=>simp [intOf];omega
  obtain rfl:t=48:=by omega
  have Z:=zh R;have O:=zh U;have l:=zh S;clear R U al S;go_wp2;go_ret2
  exact Or.inl ⟨Z.o,_,rfl,O.o,l.o⟩
theorem wP (w:World) (c h:Option Addr) (g k d i:Nat) (a b:zd) (l:RunsIn w c g d a) (n:RunsIn w h k i b) :
 zC 169 #[.slice c g d,.slice h k i] w fun e w'=>e=.returned (zI (if (xe a&&xe b)=true then 0 else 1))/\Below w.heap.size w w':=by
 cases m:xe a with
 | false =>
  have j:Wd a=1:=by simp [Wd,m]
  rw [Bool.false_and,if_neg (by decide)];go_enter Tryz.func169,Tryz.ntmps169;go_wp2_with fail
  refine (yg _ c g d a l).mono ?_;rintro e q ⟨rfl,f⟩;rw [j];go_wp2;go_ret;exact ⟨rfl,f⟩
 | true =>
  have j:Wd a=0:=by simp [Wd,m]
  have p:(if (true&&xe b)=true then (0:Int) else 1)=Wd b:=by simp [Wd]
  rw [p];go_enter Tryz.func169,Tryz.ntmps169;go_wp2_with fail
  refine (yg _ c g d a l).mono ?_;rintro e q ⟨rfl,f⟩;rw [j];go_wp2_with fail
  refine (yg _ h k i b (n.later f)).mono ?_;rintro e r ⟨rfl,o⟩;go_wp2;go_ret;exact ⟨rfl,za f o⟩
def Yc (f:Nat->Int):zd×Int:=if wB f 48=true then (zD f 48,0) else ([],2)
def xl (jn:Int->Int->Int) (l1 l2:zd):zd×Int:=if (xe l1&&xe l2)=true then Yc (jv jn l1 l2) else ([],1)
def Uf (w w':World) (e:Ending) (r:zd×Int):Prop:=∃ a n cap,e=.returned (.tuple #[.slice a n cap,zI r.2])/\RunsIn w' a n cap r.1/\Below w.heap.size w w'
theorem ZJ (w:World):RunsIn w none 0 0 []:=⟨rfl,Nat.le_refl _,by simp,by simp,fun h=>by simp at h,fun h=>by simp at h⟩
theorem R7 (w:World) (l:zd) (c:Array Value) (n:Nat) (f:c.toList=cellsOf l) (hn:n=l.length) (g:l.length<=48):RunsIn (w.alloc (.cells c 55)) (zO w.heap.size 0) n n l:=by
 refine ⟨hn,Nat.le_refl _,by omega,by omega,fun _=>⟨w.heap.size,0,rfl,fun i h=>?_⟩,fun _ b j e=>by cases e;exact Or.inr ⟨c,_,heap_alloc_new w _⟩⟩;rw [World.cell?_alloc_at _ _ _ _ rfl,World.cell?_alloc_at _ _ _ _ rfl];have a:=xr l i (by omega);have d:=xJ l i (by omega);rw [<-f] at a d;simp only [Array.getElem?_toList] at a d;rw [Nat.zero_add];exact ⟨a,d⟩
theorem Pb {w w':World} {a:Int} (b:Below w.heap.size w w'):Uf w w' (.returned (.tuple #[zN,zI a])) ([],a):=⟨none,0,0,rfl,ZJ _,b⟩
theorem ZV.of {k:Nat} {jn:Int->Int->Int} (c:∀ (args:Array Value) (w:World),(callFunc k args).run Tryz.prog w=.ok (.enter k args) w)
 (h:∀ (x y:Int) (w:World),-1048576<=x->x<=1048576->-1048576<=y->y<=1048576->zC k #[zI x,zI y] w fun e w'=>e=.returned (zI (jn x y))/\w'=w):ZV k jn :=
 ⟨c,fun x y w a b=>h x y w (ZA.1 a).1 (ZA.1 a).2 (ZA.1 b).1 (ZA.1 b).2⟩
theorem LQ:ZV 170 (fun x y=>x-y):=by
 refine ZV.of (fun args w=>by go_simp) fun x y w a b c d=>?_;go_enter Tryz.func170,Tryz.ntmps170;go_wp2;go_ret;exact ⟨rfl,rfl⟩
theorem Gj:ZV 188 (fun x y=>min x y):=by
 refine ZV.of (fun args w=>by go_simp) fun x y w a b c d=>?_;go_enter Tryz.func188,Tryz.ntmps188;go_wp2
 all_goals
  go_ret;exact ⟨yK (by omega),rfl⟩
theorem Gk:ZV 166 (fun x y=>x+y):=by
 refine ZV.of (fun args w=>by go_simp) fun x y w a b c d=>?_;go_enter Tryz.func166,Tryz.ntmps166;go_wp2;go_ret;exact ⟨rfl,rfl⟩
theorem Jf (k:Nat) (jn:Int->Int->Int) (y:ZV k jn) (w:World) (o p:Option Addr) (d g f h:Nat) (b c:zd) (j:RunsIn w o d g b) (l:RunsIn w p f h c)
 (q:Xy b) (r:Xy c) (u:∀ i,i<d->bdd (rN b i)=true) (x:∀ i,i<f->bdd (rN c i)=true) :
 zC 165 #[.slice o d g,.slice p f h,.func (.func k) #[] #[]] w fun e w'=>Uf w w' e (Yc (jv jn b c)):=by
 have D:0<d:=by rw [j.len];exact q.1
 have E:0<f:=by rw [l.len];exact r.1
 obtain ⟨b1,B,rfl,_⟩:=j.cells D;obtain ⟨s,C,rfl,_⟩:=l.cells E;refine (LR k jn y w b1 B d g s C f h b c j l q r u x).mono ?_;rintro e w' (⟨m,v,rfl,z,n⟩ | ⟨m,rfl,n⟩)
 ·obtain ⟨a,t,rfl,A,_⟩:=z.parts (Ri _ 48);have:Yc (jv jn b c)=(zD (jv jn b c) 48,0):=by simp [Yc,m]
  rw [this];exact ⟨a,_,t,rfl,A,n⟩
 ·have:Yc (jv jn b c)=([],2):=by simp [Yc,m]
  rw [this];exact Pb n
theorem Uf.from {w b c:World} {e:Ending} {r:zd×Int} (f:Below w.heap.size w b) (h:Uf b c e r):Uf w c e r:=by
 obtain ⟨a,n,d,i,j,g⟩:=h;exact ⟨a,n,d,i,j,za f g⟩
theorem QK (w:World) (k l:Option Addr) (v z m p:Nat) (b c:zd) (h:RunsIn w k v m b) (j:RunsIn w l z p c) :
 zC 137 #[.slice k v m,.slice l z p] w fun e w'=>Uf w w' e (xl (fun x y=>x-y) b c):=by
 cases d:(xe b&&xe c) with
 | false =>
  have f:xl (fun x y=>x-y) b c=([],1):=by simp only [xl,d];rfl
  rw [f];have s:(if (xe b&&xe c)=true then (0:Int) else 1)=1:=by rw [d];rfl
  go_enter Tryz.func137,Tryz.ntmps137;go_wp2_with fail
  refine (wP _ _ _ _ _ _ _ b c h j).mono ?_;rintro e C ⟨rfl,g⟩;rw [s];go_wp2;go_ret2
  exact Pb g
 | true =>
  have f:xl (fun x y=>x-y) b c=Yc (jv (fun x y=>x-y) b c):=by simp only [xl,d];rfl
  rw [f];have s:(if (xe b&&xe c)=true then (0:Int) else 1)=0:=by rw [d];rfl
  rw [Bool.and_eq_true] at d;have A:=zh (zX.1 d.1);have B:=zh (zX.1 d.2);obtain ⟨r,u⟩:=qB (Yc (jv (fun x y=>x-y) b c));rw [<-u];have D:=zh u;clear u f d;go_enter Tryz.func137,Tryz.ntmps137;go_wp2_with fail
  refine (wP _ _ _ _ _ _ _ b c h j).mono ?_;rintro e C ⟨rfl,g⟩;rw [s];go_wp2_with fail
  have t:=Jf 170 _ LQ C k l v m z p b c (h.later g) (j.later g) A.o.rises B.o.rises (fun i q=>A.o.bdd (by rw [<-h.len];exact q)) (fun i q=>B.o.bdd (by rw [<-j.len];exact q));rw [<-D.o] at t;refine t.mono ?_;clear t;rintro e G ⟨a,n,E,rfl,f,F⟩;go_wp2;go_ret2
  exact ⟨a,n,E,rfl,f,za g F⟩
def wJ (l:zd) (a b n:Int) (t:Nat):Int:=if a<=t/\(t:Int)<b then zn l t+n else zn l t
def yV (l:zd) (a b n:Int):zd×Int:=if xe l=true then (if (Xw a b&&bdd n)=true then Yc (wJ l a b n) else ([],3)) else ([],1)
theorem Lc {a b n:Int} (d:0<=a) (e:a<b):Xy [(0,0),(a,n),(b,0)]:=by
 refine ⟨by simp,rfl,fun i c=>?_⟩;simp at c
 match i,c with
 | 0,_=>simpa [zp] using d
 | 1,_=>simp [zp];omega
theorem IK {a b n:Int} (t:Nat):zn [(0,0),(a,n),(b,0)] t=if b<=t then 0 else if a<=t then n else 0:=by
 have e:zp [(0,0),(a,n),(b,0)] 2=b:=rfl;have f:zp [(0,0),(a,n),(b,0)] 1=a:=rfl;show rN [(0,0),(a,n),(b,0)] (if zp [(0,0),(a,n),(b,0)] 2<=(t:Int) then 2 else if zp [(0,0),(a,n),(b,0)] 1<=(t:Int) then 1 else 0)=_;rw [e,f];by_cases c:b<=(t:Int)
 ·rw [if_pos c,if_pos c];rfl
 rw [if_neg c,if_neg c];by_cases d:a<=(t:Int)
 ·rw [if_pos d,if_pos d];rfl
 rw [if_neg d,if_neg d];rfl
theorem Kn {l:zd} {a b n:Int}:Yc (jv (fun x y=>x+y) l [(0,0),(a,n),(b,0)])=Yc (wJ l a b n):=by
 have c:∀ t,jv (fun x y=>x+y) l [(0,0),(a,n),(b,0)] t=wJ l a b n t:=by
  intro t;simp only [jv,IK,wJ]
  split
  ·rw [if_neg (by omega)];omega
  split
  ·rw [if_pos (by omega)]
  rw [if_neg (by omega)];omega
 simp only [Yc];rw [TH 48 (fun t _=>c t),Wh 48 (fun t _=>c t)]
def SC (w w':World) (e:Ending) (r:zd×Int):Prop:=∃ a n cap,e=.returned (.tuple #[.slice a n cap,zI r.2])/\RunsIn w' a n cap r.1/\Below w.heap.size w w'/\∀ b off,a=zO b off->w.heap.size<=b
theorem Yk {w w':World} {a:Int} (b:Below w.heap.size w w'):SC w w' (.returned (.tuple #[zN,zI a])) ([],a):=⟨none,0,0,rfl,ZJ _,b,fun _ _ e=>by cases e⟩
theorem V4 (k:Nat) (jn:Int->Int->Int) (B:ZV k jn) (w:World) (q r:Option Addr) (h l j m:Nat) (c d:zd) (n:RunsIn w q h l c) (o:RunsIn w r j m d)
 (s:Xy c) (t:Xy d) (y:∀ i,i<h->bdd (rN c i)=true) (z:∀ i,i<j->bdd (rN d i)=true) :
 zC 165 #[.slice q h l,.slice r j m,.func (.func k) #[] #[]] w fun e w'=>SC w w' e (Yc (jv jn c d)):=by
 have G:0<h:=by rw [n.len];exact s.1
 have H:0<j:=by rw [o.len];exact t.1
 obtain ⟨b1,E,rfl,_⟩:=n.cells G;obtain ⟨u,F,rfl,_⟩:=o.cells H;refine (LR k jn B w b1 E h l u F j m c d n o s t y z).mono ?_;rintro e w' (⟨f,v,rfl,C,p⟩ | ⟨f,rfl,p⟩)
 ·obtain ⟨a,x,rfl,D,_,hg⟩:=C.parts (Ri _ 48);have:Yc (jv jn c d)=(zD (jv jn c d) 48,0):=by simp [Yc,f]
  rw [this];refine ⟨a,_,x,rfl,D,p,fun b I e=>?_⟩;obtain ⟨g,f,A,_⟩:=hg (Yi _ 48 (by omega)).1;rw [e] at f;cases f
  exact A
 ·have:Yc (jv jn c d)=([],2):=by simp [Yc,f]
  rw [this];exact Yk p
theorem OC (w:World) (k:Option Addr) (t m:Nat) (l:zd) (a b n:Int) (h:RunsIn w k t m l) :
 zC 131 #[.slice k t m,zI a,zI b,zI n] w fun e w'=>SC w w' e (yV l a b n):=by
 cases f:xe l with
 | false =>
  have c:yV l a b n=([],1):=by simp [yV,f]
  rw [c];have j:Wd l=1:=by simp [Wd,f]
  go_enter Tryz.func131,Tryz.ntmps131;go_wp2_with fail
  refine (yg _ _ _ _ l h).mono ?_;rintro e u ⟨rfl,d⟩;rw [j];go_wp2;go_ret2
  exact Yk d
 | true =>
  have j:Wd l=0:=by simp [Wd,f]
  cases g:Xw a b with
  | false =>
   have c:yV l a b n=([],3):=(by simp [yV,f,g]);rw [c];go_enter Tryz.func131,Tryz.ntmps131;go_wp2_with fail
   refine (yg _ _ _ _ l h).mono ?_;rintro e u ⟨rfl,d⟩;rw [j];go_wp2_with (go_at_call 164;refine (Vn _ _ _).mono ?_;rintro e w' ⟨rfl,rfl⟩;rw [g])
   go_ret2
   exact Yk d
  | true =>
   cases hn:bdd n with
   | false =>
    have c:yV l a b n=([],3):=(by simp [yV,f,hn]);rw [c];go_enter Tryz.func131,Tryz.ntmps131;go_wp2_with fail
    refine (yg _ _ _ _ l h).mono ?_;rintro e u ⟨rfl,d⟩;rw [j];go_wp2_with (first | (go_at_call 164;refine (Vn _ _ _).mono ?_;rintro e w' ⟨rfl,rfl⟩;rw [g]) | (go_at_call 152;refine (Zc _ _).mono ?_;rintro e w' ⟨rfl,rfl⟩;rw [hn]))
    go_ret2
    exact Yk d
   | true =>
    have B:=of_decide_eq_true g;have c:yV l a b n=Yc (jv (fun x y=>x+y) l [(0,0),(a,n),(b,0)]):=(by rw [Kn];simp [yV,f,g,hn]);rw [c];have v:=zh (zX.1 f);have z:=zh B;obtain ⟨r,s⟩:=qB (Yc (jv (fun x y=>x+y) l [(0,0),(a,n),(b,0)]));rw [<-s];have C:=zh s;clear s c f B;go_enter Tryz.func131,Tryz.ntmps131;go_wp2_with fail
    refine (yg _ _ _ _ l h).mono ?_;rintro e u ⟨rfl,d⟩;rw [j];go_wp2_with (first | (go_at_call 164;refine (Vn _ _ _).mono ?_;rintro e w' ⟨rfl,rfl⟩;rw [g]) | (go_at_call 152;refine (Zc _ _).mono ?_;rintro e w' ⟨rfl,rfl⟩;rw [hn]))
    have A:zL w' (w'.alloc (.cells #[zI 0,zI 0,zI a,zI n,zI b,zI 0] 55)):=zr _ _;have q:=V4 166 _ Gk _ k (zO w'.heap.size 0) t m 3 3 l [(0,0),(a,n),(b,0)] ((h.later d).later A) (R7 w' [(0,0),(a,n),(b,0)] _ 3 rfl rfl (by simp)) v.o.rises (Lc z.o.1 z.o.2.1) (fun i p=>v.o.bdd (by rw [<-h.len];exact p)) (fun i p=>by
     match i,p with
     | 0,_=>rfl
     | 1,_=>exact hn
     | 2,_=>rfl)
    rw [<-C.o] at q;refine q.mono ?_;clear q;rintro e M ⟨D,I,E,rfl,c,G,H⟩;go_wp2;go_ret2
    exact ⟨D,I,E,rfl,c,za (za d A) G,fun b J e=>by have F:=H b J e;have L:=d.size;simp at F;omega⟩
theorem JE (l:zd) (c:Nat) (h:c<l.length):l.take (c+1)=l.take c++[(zp l c,rN l c)]:=by
 have e:(zp l c,rN l c)=l[c]:=by simp [zp,rN,List.getD,h]
 rw [List.take_succ_eq_append_getElem h,e]
theorem Pa {l:zd} (a:zW l):∀ n,∃ c,c<=l.length/\zD (zn l) n=l.take c/\(∀ i,i<c->zp l i<n)/\(c<l.length->(n:Int)<=zp l c)
 | 0=>⟨0,Nat.zero_le _,by simp [zD],fun i o=>by omega,fun _=>by rw [a.at0];exact Int.le_refl _⟩
 | n+1=>by
  obtain ⟨c,u,s,b,v⟩:=Pa a n;have x:=a.1;by_cases t:c<l.length/\zp l c=n
  ·obtain ⟨m,r⟩:=t;have f:yH l (n:Int) c:=⟨m,by omega,fun h=>by have:=a.lt h;omega⟩;have d:zn l n=rN l c:=(f.val a.rises).symm;have w:n=0\/zn l (n-1)≠zn l n:=by
    by_cases e:n=0
    ·exact Or.inl e
    refine Or.inr ?_;have c1:1<=c:=by
     by_cases k:c=0
     ·subst k;rw [a.at0] at r;omega
     omega
    have j:yH l ((n-1:Nat):Int) (c-1):=⟨by omega,by have:=b (c-1) (by omega);omega,fun _=>by rw [show c-1+1=c from by omega];omega⟩;have p:zn l (n-1)=rN l (c-1):=(j.val a.rises).symm;rw [d,p];have:=a.ne (i:=c-1) (by omega);rw [show c-1+1=c from by omega] at this;exact fun q=>this q.symm
   refine ⟨c+1,m,?_,fun i o=>?_,fun h=>?_⟩
   ·rw [zD,if_pos w,s,JE l c m,d,r]
   ·by_cases e:i=c
    ·subst e;omega
    have:=b i (by omega);omega
   have:=a.lt h;omega
  have g:c<l.length->(n:Int)<zp l c:=fun h=>by
   have:=v h;by_cases e:zp l c=n
   ·exact absurd ⟨h,e⟩ t
   omega
  have c1:1<=c:=by
   by_cases k:c=0
   ·subst k;have:=g x;rw [a.at0] at this;omega
   omega
  have y:1<=n:=by
   have:=b 0 (by omega);rw [a.at0] at this;omega
  have f:yH l (n:Int) (c-1):=⟨by omega,by have:=b (c-1) (by omega);omega,fun h=>by rw [show c-1+1=c from by omega] at h ⊢;exact g h⟩;have j:yH l ((n-1:Nat):Int) (c-1):=⟨by omega,by have:=b (c-1) (by omega);omega,fun h=>by rw [show c-1+1=c from by omega] at h ⊢;have:=g h;omega⟩;have d:zn l n=rN l (c-1):=(f.val a.rises).symm;have p:zn l (n-1)=rN l (c-1):=(j.val a.rises).symm;refine ⟨c,u,?_,fun i o=>by have:=b i o;omega,fun h=>by have:=g h;omega⟩;rw [zD,if_neg ?_,s];rintro (e | e)
  ·omega
  exact e (by rw [d,p])
theorem K5 {l:zd} (a:zW l):zD (zn l) 48=l:=by
 obtain ⟨c,f,b,g,d⟩:=Pa a 48;have:c=l.length:=by
  by_cases e:c<l.length
  ·have:=d e;have:=a.below e;omega
  omega
 rw [b,this,List.take_length]
theorem Rr {jn:Int->Int->Int} {a b r:zd} (h:xl jn a b=(r,0)):zW a/\zW b/\wB (jv jn a b) 48=true/\r=zD (jv jn a b) 48:=by
 unfold xl at h;cases c:(xe a&&xe b) with
 | false=>rw [c] at h;simp at h
 | true =>
  rw [c] at h;rw [Bool.and_eq_true] at c;simp only [if_true,Yc] at h;cases d:wB (jv jn a b) 48 with
  | false=>rw [d] at h;simp at h
  | true =>
   rw [d] at h;simp at h;exact ⟨zX.1 c.1,zX.1 c.2,rfl,h.symm⟩
theorem Jd {jn:Int->Int->Int} {a b r:zd} (h:xl jn a b=(r,0)) (t:Nat) (d:t<48):zn r t=jn (zn a t) (zn b t):=by
 obtain ⟨_,_,c,rfl⟩:=Rr h;exact Yj _ c t d
theorem F5 {f g x y:zd} (a:xl (fun x y=>x+y) f g=(x,0)) (b:xl (fun x y=>x-y) x g=(y,0)):y=f:=by
 obtain ⟨c,_,_,_⟩:=Rr a;obtain ⟨_,_,_,rfl⟩:=Rr b;rw [<-K5 c];apply Wh;intro t d;show zn x t-zn g t=zn f t;rw [Jd a t d];omega
end Go.Proofs.YtckpdfkobdgjeaaGreatDoor
