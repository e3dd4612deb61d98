/- Several texts in one: RunsA, RunsB, RunsC, RunsD, RunsN, RunsM. -/
import Derived.Test.YtckpdfkobdgjeaaGreatDoorProg
import Derived.WalkKit
import Derived.WalkSpells
import Derived.WalkLawsBesides
import Derived.Deep.QuietTactic
import Derived.BigQuiet
import Derived.Deep.RegionWith
import Derived.Test.YtckpdfkobdgjeaaGreatDoorHMath
namespace Go.Proofs.YtckpdfkobdgjeaaGreatDoor
set_option maxHeartbeats 1000000
open Go.RowKit
theorem zm {a b:Bool} (h:a=b):Ending.returned (.bool a)=.returned (.bool b):=by rw [h]
theorem yK {k:IntKind} {a b:Int} (h:a=b):Ending.returned (.int k a)=.returned (.int k b):=by rw [h]
theorem Zc (n:Int) (w:World):zC 152 #[zI n] w fun e w'=>e=.returned (.bool (bdd n))/\w'=w:=by
 go_enter Tryz.func152,Tryz.ntmps152;go_wp2
 all_goals
  go_ret;exact ⟨zm (by simp [bdd];omega),rfl⟩
theorem Vn (a b:Int) (w:World):zC 164 #[zI a,zI b] w fun e w'=>e=.returned (.bool (Xw a b))/\w'=w:=by
 go_enter Tryz.func164,Tryz.ntmps164;go_wp2
 all_goals
  go_ret;refine ⟨zm ?_,rfl⟩;simp only [Xw];rw [Bool.eq_iff_iff];simp
  try omega
structure RunsIn (w:World) (a:Option Addr) (n cap:Nat) (l:zd):Prop where
 len:n=l.length
 le:n<=cap
 bound:n<=9223372036854775807
 capb:cap<=9223372036854775807
 cells:0<n->∃ b off,a=zO b off/\∀ i,i<n->w.cell? (zA b (off+i*2))=some (zI (zp l i))/\w.cell? (zA b (off+i*2+1))=some (zI (rN l i))
def Wd (l:zd):Int:=if xe l then 0 else 1
theorem VF (w:World) (b m n cap:Nat) (l:zd) (i:Nat) (t:Int) (h:RunsIn w (zO b m) n cap l) (p:i<n) :
 zC 171 #[.slice (zO b m) n cap,zI i,zI t] w fun e w'=>∃ j:Nat,e=.returned (zI j)/\i<=j/\j<n/\(i<j->zp l j<=t)/\(j+1<n->t<zp l (j+1))/\w'=w:=by
 obtain ⟨hn,k,u,v,a⟩:=h;obtain ⟨r,y,e,a⟩:=a (by omega);cases e
 go_enter Tryz.func171,Tryz.ntmps171;go_wp2;go_loop [1] (fun s=>∃ j:Nat,s=zI j/\i<=j/\j<n/\(i<j->zp l j<=t)) (fun s=>n-(intOf s).toNat)
 case atStart=>exact ⟨i,rfl,Nat.le_refl _,p,fun h=>by omega⟩
 case round =>
  obtain ⟨j,rfl,d,f,g⟩:=hrel;by_cases c:j+1<n
  ·have x:=(a (j+1) c).1;have q:(j:Int)+1<n:=(by omega);clear a hn;go_wp2
   ·have k:zp l (j+1)<=t:=(by assumption);go_round
    case rel=>exact ⟨j+1,by go_num,by omega,c,fun _=>k⟩
    case measure=>simp [intOf];omega
   have o:t<zp l (j+1):=(by assumption);go_ret;exact ⟨j,rfl,d,f,g,fun _=>o,rfl⟩
  have q:¬(j:Int)+1<n:=by omega
  clear a hn;go_wp2;go_ret;exact ⟨j,rfl,d,f,g,fun h=>absurd h c,rfl⟩
theorem Ut {l:zd} {n:Nat} (hn:Zh (n=l.length)) {j:Nat} (b:j<n) (h:¬XW l j):Wd l=1:=by
 have:xe l=false:=Ng.2 fun a=>h (a.2 j (by have:=hn.o;omega));simp [Wd,this]
theorem It {l:zd} {n:Nat} (hn:Zh (n=l.length)) (b:0<n) (h:∀ i,i<n->XW l i):Wd l=0:=by
 have:xe l=true:=zX.2 ⟨by have:=hn.o;omega,fun i a=>h i (by have:=hn.o;omega)⟩;simp [Wd,this]
theorem UI {l:zd} {j:Nat} (h:Zh (∀ i,i<j->XW l i)) (a:XW l j):∀ i,i<j+1->XW l i:=by
 intro i b;by_cases e:i=j
 ·subst e;exact a
 exact h.o i (by omega)
theorem Mg (w:World) (b a n cap:Nat) (l:zd) (h:RunsIn w (zO b a) n cap l) (y:0<n) :
 zC 100 #[.slice (zO b a) n cap] w fun e w'=>e=.returned (zI (Wd l))/\Below w.heap.size w w':=by
 obtain ⟨hn,R,N,O,d⟩:=h;have f:Zh (n=l.length):=hn;clear hn;obtain ⟨H,X,e,d⟩:=d (by omega);cases e
 have x:=(d 0 y).1;simp only [Nat.zero_mul,Nat.add_zero] at x;have V:(0:Int)<n:=by omega
 have U:((n:Int)==0)=false:=by simp;omega
 have r:b<w.heap.size:=block_lt_of_cell x;by_cases q:zp l 0=0
 ·have F:(zp l 0 != 0)=false:=by simp [q]
  have B:Zh (zp l 0=0):=q;clear q;go_enter Tryz.func100,Tryz.ntmps100;go_wp2;go_loopw [17] (fun s wr=>∃ j:Nat,s=zI j/\j<=n/\(∀ i,i<j->XW l i)/\zL w wr) (fun s _=>n-(intOf s).toNat)
  case atStart=>exact ⟨0,rfl,by omega,fun i P=>by omega,Below.refl _ _⟩
  obtain ⟨j,rfl,M,A,c⟩:=hrel;have t:Zh (∀ i,i<j->XW l i):=A;clear A;by_cases m:j<n
  ·have G:(j:Int)<n:=(by omega);have C:wr.cell? (zA b (a+j*2))=some (zI (zp l j)):=(c.cell (p:=(zA b (a+j*2))) r).trans (d j m).1;have c1:wr.cell? (zA b (a+j*2+1))=some (zI (rN l j)):=(c.cell (p:=(zA b (a+j*2+1))) r).trans (d j m).2;clear x;have S:b<wr.heap.size:=Nat.lt_of_lt_of_le r c.size;have g:Zh (zL w (wr.alloc (.cells #[zI (zp l j),zI (rN l j)] 55))):=c.alloc c.size _;by_cases L:48<=zp l j
   ·go_wp2;go_ret;exact ⟨yK (Ut f m (fun h=>by have:=h.2.1;omega)).symm,g.o⟩
   cases u:bdd (rN l j) with
   | false =>
    go_wp2_with (go_at_call 152;refine (Zc _ _).mono ?_;rintro e w' ⟨rfl,rfl⟩)
    go_ret;exact ⟨yK (Ut f m (fun h=>by have:=h.2.2.1;simp [u] at this)).symm,g.o⟩
   | true =>
    cases j with
    | zero =>
     have D:decide ((0:Int)<0)=false:=(by decide);simp only [Nat.zero_mul,Nat.add_zero] at C c1;go_wp2_with (go_at_call 152;refine (Zc _ _).mono ?_;rintro e w' ⟨rfl,rfl⟩)
     go_quiet (fail)
     go_wp2;go_roundw
     case rel=>exact ⟨1,rfl,by omega,UI t ⟨fun _=>B.o,by omega,u,fun h=>by omega⟩,below_drewN g.o _⟩
     case measure=>simp [intOf];omega
    | succ k =>
     have D:decide ((0:Int) < ↑k+1)=true:=(by simp);have Q:(k:Int)<n:=(by omega);have W:IntKind.i64.wrap (k:Int)=k:=(by rw [IntKind.wrap_i64];omega);have I:wr.cell? (zA b (a+k*2))=some (zI (zp l k)):=(c.cell (p:=(zA b (a+k*2))) r).trans (d k (by omega)).1;have J:wr.cell? (zA b (a+k*2+1))=some (zI (rN l k)):=(c.cell (p:=(zA b (a+k*2+1))) r).trans (d k (by omega)).2;by_cases z:zp l (k+1)<=zp l k
     ·have E:decide (zp l (k+1)<=zp l k)=true:=(by simpa using z);go_wp2_with (go_at_call 152;refine (Zc _ _).mono ?_;rintro e w' ⟨rfl,rfl⟩)
      go_quiet (fail)
      go_wp2;go_ret;exact ⟨yK (Ut f m (fun h=>by have:=(h.2.2.2 (by omega)).1;simp only [Nat.add_sub_cancel] at this;omega)).symm,below_drewN g.o _⟩
     ·have E:decide (zp l (k+1)<=zp l k)=false:=(by simpa using z);go_wp2_with (go_at_call 152;refine (Zc _ _).mono ?_;rintro e w' ⟨rfl,rfl⟩)
      go_quiet (fail)
      go_wp2
      ·have v:(rN l (k+1)==rN l k)=true:=(by assumption);go_ret;exact ⟨yK (Ut f m (fun h=>by have:=(h.2.2.2 (by omega)).2;simp only [Nat.add_sub_cancel] at this;exact this (eq_of_beq v))).symm,below_drewN g.o _⟩
      have v:(rN l (k+1)==rN l k)=false:=(by assumption);go_roundw
      case rel=>exact ⟨k+1+1,by go_num,by omega,UI t ⟨fun h=>by omega,by omega,u,fun _=>⟨by simp only [Nat.add_sub_cancel];omega,by simp only [Nat.add_sub_cancel];exact ne_of_beq_false v⟩⟩,below_drewN g.o _⟩
      case measure=>simp [intOf];omega
  have G:¬(j:Int)<n:=by omega
  obtain rfl:j=n:=by omega
  go_wp2;go_ret;exact ⟨yK (It f y t.o).symm,c⟩
 ·have F:(zp l 0 != 0)=true:=by simp [q]
  go_enter Tryz.func100,Tryz.ntmps100;go_wp2;go_ret;exact ⟨yK (Ut f y (fun h=>q (h.1 rfl))).symm,Below.refl _ _⟩
theorem Mf (w:World) (a:Option Addr) (cap:Nat) :
 zC 100 #[.slice a 0 cap] w fun e w'=>e=.returned (zI (Wd []))/\w'=w:=by
 go_enter Tryz.func100,Tryz.ntmps100;go_wp2;go_ret;exact ⟨yK (by rfl),rfl⟩
theorem yg (w:World) (a:Option Addr) (n cap:Nat) (l:zd) (h:RunsIn w a n cap l) :
 zC 100 #[.slice a n cap] w fun e w'=>e=.returned (zI (Wd l))/\Below w.heap.size w w':=by
 by_cases c:0<n
 ·obtain ⟨b,d,rfl,_⟩:=h.cells c;exact Mg w b d n cap l h c
 ·obtain rfl:n=0:=by omega
  obtain rfl:l=[]:=by have:=h.len;exact List.eq_nil_of_length_eq_zero this.symm
  refine (Mf w a cap).mono ?_;rintro e w' ⟨rfl,rfl⟩;exact ⟨rfl,Below.refl _ _⟩
theorem WQ {l:zd} {n:Nat} (hn:Zh (n=l.length)) {j:Nat} (b:j<n) (h:¬XW l j):xe l=false :=
 Ng.2 fun a=>h (a.2 j (by have:=hn.o;omega))
theorem KZ {l:zd} {n:Nat} (hn:Zh (n=l.length)) (b:0<n) (h:∀ i,i<n->XW l i):xe l=true :=
 zX.2 ⟨by have:=hn.o;omega,fun i a=>h i (by have:=hn.o;omega)⟩
theorem Kk {l:zd} {j:Nat} (h:∀ i,i<j->XW l i):∀ i,i<j->0<=zp l i:=by
 intro i
 induction i with
 | zero=>intro a;rw [(h 0 a).1 rfl];exact Int.le_refl _
 | succ i ih =>
  intro a;have c:=ih (by omega);have b:=((h (i+1) a).2.2.2 (by omega)).1;simp only [Nat.add_sub_cancel] at b;omega
theorem Hg {l:zd} {j:Nat} (h:Zh (∀ i,i<j->XW l i)) (b:yW (zp l j) 0 47=false):¬XW l j:=by
 intro a;have c:=Kk (UI h a) j (by omega);have d:=a.2.1;simp [yW] at b;omega
theorem xM {w wr:World} (h:Zh (∃ d,wr=w.drewN d)) (n:Nat):∃ d,wr.drewN n=w.drewN d:=by
 obtain ⟨d,rfl⟩:=h.o;exact ⟨d+n,by rw [World.drewN_drewN]⟩
theorem RunsIn.later {w w':World} {a:Option Addr} {n cap:Nat} {l:zd} (h:RunsIn w a n cap l) (c:Below w.heap.size w w'):RunsIn w' a n cap l:=by
 refine ⟨h.len,h.le,h.bound,h.capb,fun g=>?_⟩;obtain ⟨b,j,f,d⟩:=h.cells g;exact ⟨b,j,f,fun i e=>⟨cell_later c (d i e).1,cell_later c (d i e).2⟩⟩
theorem yM {w w':World} (h:∃ d,w'=w.drewN d):Below w.heap.size w w':=by
 obtain ⟨d,rfl⟩:=h;exact below_drewN (Below.refl _ _) d
theorem za {w a c:World} (b:Below w.heap.size w a) (d:Below a.heap.size a c):Below w.heap.size w c:=b.trans (d.mono b.size)
def Yv (l:zd) (t:Int):Int×Int:=if xe l=true then (if yW t 0 47=true then (XJ l t,0) else (0,3)) else (0,1)
def YT (v:Nat->Int) (a:Nat):Nat->Int
 | 0=>v a
 | k+1=>min (YT v a k) (v (a+k))
def OK (v:Nat->Int) (a b:Nat) (n:Int):Prop:=(∀ t,a<=t->t<b->n<=v t)/\∃ t,a<=t/\t<b/\n=v t
theorem Y9 (v:Nat->Int) (a:Nat):∀ k,0<k->OK v a (a+k) (YT v a k)
 | 0,h=>by omega
 | 1,_=>⟨fun t b g=>by
  obtain rfl:t=a:=by omega
  simp [YT],a,by omega,by omega,by simp [YT]⟩
 | k+2,_=>by
  obtain ⟨b,t,d,j,f⟩:=Y9 v a (k+1) (by omega);rw [YT];refine ⟨fun s c i=>?_,?_⟩
  ·by_cases e:s=a+(k+1)
   ·subst e;omega
   have:=b s c (by omega);omega
  by_cases e:YT v a (k+1)<=v (a+(k+1))
  ·exact ⟨t,d,by omega,by rw [<-f];omega⟩
  exact ⟨a+(k+1),by omega,by omega,by omega⟩
theorem OK.eq {v:Nat->Int} {a b:Nat} {n m:Int} (c:OK v a b n) (d:OK v a b m):n=m:=by
 obtain ⟨e,t,i,j,l⟩:=c;obtain ⟨f,s,g,h,k⟩:=d;have:=e s g h;have:=f t i j;omega
def zn (l:zd) (t:Nat):Int:=XJ l (t:Int)
def xN (l:zd) (a b:Int):Int×Int:=if xe l=true then (if Xw a b=true then (YT (zn l) a.toNat (b.toNat-a.toNat),0) else (0,3)) else (0,1)
def VJ (l:zd) (i m:Nat) (b n:Int):Prop:=n<=rN l i/\(∀ k,i<k->k<m->zp l k<b->n<=rN l k)/\∃ k,k<l.length/\(k=i\/(i<k/\zp l k<b))/\n=rN l k
theorem yH.mono {l:zd} (c:Xy l) {s t:Int} {i k:Nat} (a:yH l s i) (b:yH l t k) (h:s<=t):i<=k:=by
 by_cases e:i<=k
 ·exact e
 have:=b.2.2 (by have:=a.1;omega);have:=c.le (i:=k+1) (j:=i) (by omega) a.1;have:=a.2.1;omega
theorem VJ.low {l:zd} (c:zW l) {i:Nat} {a b:Nat} {n:Int} (s:a<b) (f:yH l (a:Int) i) (h:VJ l i l.length b n):OK (zn l) a b n:=by
 obtain ⟨p,q,k,g,u,o⟩:=h;refine ⟨fun t A B=>?_,?_⟩
 ·obtain ⟨m,d⟩:=V8 c.rises (t:=(t:Int)) (by omega);have y:=yH.mono c.rises f d (by omega);show n<=XJ l t;rw [<-d.val c.rises];by_cases e:i=m
  ·subst e;exact p
  exact q m (by omega) d.1 (by have:=d.2.1;omega)
 rcases u with rfl | ⟨x,z⟩
 ·exact ⟨a,by omega,s,by show n=XJ l a;rw [o,f.val c.rises]⟩
 have v:=f.2.2 (by omega);have w:=c.le (i:=i+1) (j:=k) (by omega) g;have r:yH l (zp l k) k:=⟨g,Int.le_refl _,fun h=>c.lt h⟩;refine ⟨(zp l k).toNat,by omega,by omega,?_⟩;show n=XJ l ((zp l k).toNat:Int);rw [Int.toNat_of_nonneg (by omega),o,r.val c.rises]
theorem VJ.start (l:zd) (i:Nat) (b:Int) (a:i<l.length):VJ l i (i+1) b (rN l i) :=
 ⟨Int.le_refl _,fun k c d=>by omega,i,a,Or.inl rfl,rfl⟩
theorem VJ.skip {l:zd} {i m:Nat} {b n:Int} (h:VJ l i m b n) (f:¬zp l m<b):VJ l i (m+1) b n :=
 ⟨h.1,fun k a d c=>by
  by_cases e:k=m
  ·subst e;omega
  exact h.2.1 k a (by omega) c,h.2.2⟩
theorem VJ.take {l:zd} {i m:Nat} {b n:Int} (h:VJ l i m b n) (f:i<m) (o:m<l.length) (p:zp l m<b):VJ l i (m+1) b (min n (rN l m)):=by
 obtain ⟨q,a,k,g,j,s⟩:=h;refine ⟨by omega,fun k c r d=>?_,?_⟩
 ·by_cases e:k=m
  ·subst e;omega
  have:=a k c (by omega) d;omega
 by_cases e:n<=rN l m
 ·exact ⟨k,g,j,by omega⟩
 exact ⟨m,o,Or.inr ⟨f,p⟩,by omega⟩
theorem Fq (x y:Int):(if y<x then y else x)=min x y:=by rw [Int.min_def];split <;> split <;> omega
theorem QJ (w:World) (a:Option Addr) (n cap:Nat) (l:zd) (d c:Int) (h:RunsIn w a n cap l) :
 zC 138 #[.slice a n cap,zI d,zI c] w fun e w'=>e=.returned (.tuple #[zI (xN l d c).1,zI (xN l d c).2])/\Below w.heap.size w w':=by
 cases r:xe l with
 | false =>
  have v:xN l d c=(0,1):=by simp [xN,r]
  have B:Wd l=1:=by simp [Wd,r]
  rw [v];go_enter Tryz.func138,Tryz.ntmps138;go_wp2_with (go_at_call 100;refine (yg _ a n cap l h).mono ?_;rintro e w' ⟨rfl,f⟩;rw [B])
  go_ret2
  exact ⟨rfl,f⟩
 | true =>
  have B:Wd l=0:=by simp [Wd,r]
  cases u:Xw d c with
  | false =>
   have v:xN l d c=(0,3):=(by simp [xN,r,u]);rw [v];go_enter Tryz.func138,Tryz.ntmps138;go_wp2_with (first | (go_at_call 100;refine (yg _ a n cap l h).mono ?_;rintro e w' ⟨rfl,f⟩;rw [B]) | (go_at_call 164;refine (Vn _ _ _).mono ?_;rintro e w' ⟨rfl,rfl⟩;rw [u]))
   go_ret2
   exact ⟨rfl,f⟩
  | true =>
   have E:=zX.1 r;have v:xN l d c=(YT (zn l) d.toNat (c.toNat-d.toNat),0):=(by simp [xN,r,u]);rw [v];have O:=u;simp [Xw] at O;obtain ⟨R,af,ag⟩:=O;have G:=h.len;have H:0<n:=(by rw [G];exact E.1);obtain ⟨b,g,rfl,F⟩:=h.cells H;have k:Zh (n=l.length):=G;clear G;have Z:=h.le;have W:=h.bound;have X:=h.capb;generalize t:YT (zn l) d.toNat (c.toNat-d.toNat)=low;have I:Zh (∀ x i,yH l d i->VJ l i n c x->x=low):=by
    intro x i C P;rw [k.o] at P;have:=VJ.low (a:=d.toNat) (b:=c.toNat) E (by omega) (by rw [Int.toNat_of_nonneg R];exact C) (by rw [Int.toNat_of_nonneg (by omega)];exact P);have z:=Y9 (zn l) d.toNat (c.toNat-d.toNat) (by omega);rw [show d.toNat+(c.toNat-d.toNat)=c.toNat from by omega,t] at z;exact this.eq z
   clear t;go_enter Tryz.func138,Tryz.ntmps138;go_wp2_with (first | (go_at_call 100;refine (yg _ _ n cap l h).mono ?_;rintro e w' ⟨rfl,f⟩;rw [B]) | (go_at_call 164;refine (Vn _ _ _).mono ?_;rintro e w' ⟨rfl,rfl⟩;rw [u]))
   refine (VF _ b g n cap l 0 d (h.later f) H).mono ?_;rintro e y ⟨j,rfl,V,z,J,L,rfl⟩;have C:Zh (yH l d j):=⟨by have:=k.o;omega,by
    by_cases e:0<j
    ·exact J e
    obtain rfl:j=0:=(by omega);rw [E.at0];omega,fun h=>L (by have:=k.o;omega)⟩
   have A:Zh (∀ i,i<n->y.cell? (zA b (g+i*2))=some (zI (zp l i))/\y.cell? (zA b (g+i*2+1))=some (zI (rN l i))):=fun i c=>⟨cell_later f (F i c).1,cell_later f (F i c).2⟩;have aa:b<y.heap.size:=block_lt_of_cell (A.o 0 H).1;have U:=(A.o j z).2;have Y:(j:Int)<n:=(by omega);clear J L F;by_cases Q:cap=j+1
   ·obtain rfl:n=j+1:=(by omega);subst Q;go_wp2;go_loop [10,35] (fun m s=>m=zI (rN l j)/\s=zI 0) (fun _ _=>0)
    case atStart=>exact ⟨rfl,rfl⟩
    obtain ⟨rfl,rfl⟩:=hrel;go_wp2;go_ret2
    rw [I.o _ _ C.o (VJ.start l j c (by have:=k.o;omega))];exact ⟨rfl,f⟩
   go_wp2;go_loopw [10,35] (fun m s wr=>∃ (q:Nat) (x:Int),s=zI q/\m=zI x/\q<=n-(j+1)/\VJ l j (j+1+q) c x/\zL y wr) (fun _ s _=>n-(intOf s).toNat)
   case atStart=>exact ⟨0,rN l j,rfl,rfl,by omega,VJ.start l j c (by have:=k.o;omega),Below.refl _ _⟩
   obtain ⟨q,x,rfl,rfl,ad,t,p⟩:=hrel;have D:Zh (VJ l j (j+1+q) c x):=t;clear t;by_cases ab:q<n-(j+1)
   ·have ae:(q:Int)<(n:Int)-(↑j+1):=(by omega);have S:wr.cell? (zA b (g+(j+1)*2+q*2))=some (zI (zp l (j+1+q))):=by
     have:=cell_later p (A.o (j+1+q) (by omega)).1;rw [show g+(j+1)*2+q*2=g+(j+1+q)*2 from by omega];exact this
    have c1:wr.cell? (zA b (g+(j+1)*2+q*2+1))=some (zI (rN l (j+1+q))):=by
     have:=cell_later p (A.o (j+1+q) (by omega)).2;rw [show g+(j+1)*2+q*2=g+(j+1+q)*2 from by omega];exact this
    have M:Zh (zL y (wr.alloc (.cells #[zI (zp l (j+1+q)),zI (rN l (j+1+q))] 55))):=p.alloc p.size _;clear p;go_wp2
    ·have N:zp l (j+1+q)<c:=(by assumption);go_roundw
     case rel=>exact ⟨q+1,_,by go_num,rfl,by omega,by rw [Fq];exact D.o.take (by omega) (by have:=k.o;omega) N,M.o⟩
     case measure=>simp [intOf];omega
    have N:c<=zp l (j+1+q):=(by assumption);go_roundw
    case rel=>exact ⟨q+1,_,by go_num,rfl,by omega,D.o.skip (by omega),M.o⟩
    case measure=>simp [intOf];omega
   obtain rfl:q=n-(j+1):=(by omega);go_wp2;go_ret2
   have:=D.o;rw [show j+1+(n-(j+1))=n from by omega] at this;rw [I.o _ _ C.o this];exact ⟨rfl,za f p⟩
theorem Qt (w:World) (p q:Option Addr) (n x y:Nat) (l:zd) (f:RunsIn w p n x l) (A:RunsIn w q n y l) :
 zC 28 #[.slice p n x,.slice q n y] w fun e w'=>e=.returned (.bool true)/\∃ d,w'=w.drewN d:=by
 have L:=f.le;have G:=f.bound;have H:=f.capb;have C:Zh (0<n->∃ b1 t b u,p=zO b1 t/\q=zO b u/\(∀ i,i<n->w.cell? (zA b1 (t+i*2))=some (zI (zp l i))/\w.cell? (zA b1 (t+i*2+1))=some (zI (rN l i)))/\(∀ i,i<n->w.cell? (zA b (u+i*2))=some (zI (zp l i))/\w.cell? (zA b (u+i*2+1))=some (zI (rN l i)))):=by
  intro h;obtain ⟨b1,k,z,c1⟩:=f.cells h;obtain ⟨b,m,B,c2⟩:=A.cells h;exact ⟨b1,k,b,m,z,B,c1,c2⟩
 clear f A;have M:((n:Int) != n)=false:=by simp
 by_cases h:0<n
 ·obtain ⟨b1,k,b,m,rfl,rfl,c1,c2⟩:=C.o h;go_enter Tryz.func28,Tryz.ntmps28;go_wp2;go_loopw [5] (fun s wr=>∃ j:Nat,s=zI j/\j<=n/\∃ d,wr=w.drewN d) (fun s _=>n-(intOf s).toNat)
  case atStart=>exact ⟨0,rfl,by omega,0,rfl⟩
  obtain ⟨j,rfl,J,r⟩:=hrel;have v:Zh (∃ d,wr=w.drewN d):=r;have c:∀ a,wr.cell? a=w.cell? a:=by obtain ⟨d,rfl⟩:=r;exact fun a=>rfl
  clear r;by_cases g:j<n
  ·have I:(j:Int)<n:=(by omega);have D:wr.cell? (zA b1 (k+j*2))=some (zI (zp l j)):=(c _).trans (c1 j g).1;have E:wr.cell? (zA b1 (k+j*2+1))=some (zI (rN l j)):=(c _).trans (c1 j g).2;have F:wr.cell? (zA b (m+j*2))=some (zI (zp l j)):=(c _).trans (c2 j g).1;have z:wr.cell? (zA b (m+j*2+1))=some (zI (rN l j)):=(c _).trans (c2 j g).2;clear c c1 c2;go_wp2;go_quiet (fail)
   go_wp2;go_roundw
   case rel=>exact ⟨j+1,by go_num,by omega,xM v _⟩
   case measure=>simp [intOf];omega
  obtain rfl:j=n:=by omega
  clear c c1 c2;go_wp2;go_ret;exact ⟨rfl,v.o⟩
 ·obtain rfl:n=0:=by omega
  go_enter Tryz.func28,Tryz.ntmps28;go_wp2;go_loop [5] (fun s=>s=zI 0) (fun _=>0)
  case atStart=>rfl
  subst hrel;go_wp2;go_ret;exact ⟨rfl,0,rfl⟩
def cellsOf:zd->List Value
 | []=>[]
 | r::l=>zI r.1::zI r.2::cellsOf l
theorem xL:∀ l:zd,(cellsOf l).length=l.length*2
 | []=>rfl
 | r::l=>by simp [cellsOf,xL l];omega
theorem YD:∀ (l:zd) (x:Int×Int),cellsOf (l++[x])=cellsOf l++[zI x.1,zI x.2]
 | [],x=>rfl
 | r::l,x=>by simp [cellsOf,YD l x]
theorem xr:∀ (l:zd) (i:Nat),i<l.length->(cellsOf l)[i*2]?=some (zI (zp l i))
 | [],i,h=>by simp at h
 | r::l,0,_=>by simp [cellsOf,zp]
 | r::l,i+1,h=>by
  have:=xr l i (by simpa using h);rw [show (i+1)*2=i*2+1+1 from by omega];simpa [cellsOf,zp] using this
theorem xJ:∀ (l:zd) (i:Nat),i<l.length->(cellsOf l)[i*2+1]?=some (zI (rN l i))
 | [],i,h=>by simp at h
 | r::l,0,_=>by simp [cellsOf,rN]
 | r::l,i+1,h=>by
  have:=xJ l i (by simpa using h);rw [show (i+1)*2+1=i*2+1+1+1 from by omega];simpa [cellsOf,rN] using this
def YU (w:World) (B:Nat) (v:Value) (l:zd):Prop:=w.ownsRow B 55 2 v l.length (cellsOf l)
theorem YU.parts {w:World} {B:Nat} {v:Value} {l:zd} (h:YU w B v l) (n:l.length<=48) :
 ∃ a cap,v=.slice a l.length cap/\RunsIn w a l.length cap l/\(l=[]->v=.slice none 0 0\/True)/\(0<l.length->∃ g,a=zO g 0/\B<=g/\g<w.heap.size):=by
 have d:=h;rcases d.2 with ⟨b,hn⟩ | ⟨g,cap,m,b,hg,f,k,e,o,p⟩
 ·have j:l=[]:=List.eq_nil_of_length_eq_zero hn;subst j;exact ⟨none,0,by simpa using b,⟨rfl,Nat.le_refl _,by simp,by simp,fun h=>by simp at h⟩,fun _=>Or.inr trivial,fun h=>by simp at h⟩
 ·subst b;refine ⟨zO g 0,cap,rfl,⟨rfl,k,by omega,e,fun _=>⟨g,0,rfl,fun i c=>⟨?_,?_⟩⟩⟩,fun _=>Or.inr trivial,fun _=>⟨g,rfl,hg,?_⟩⟩
  ·rw [Nat.zero_add];exact (World.ownsRow.cellAt h (i*2) (by omega)).trans (xr l i c)
  ·rw [Nat.zero_add];exact (World.ownsRow.cellAt h (i*2+1) (by omega)).trans (xJ l i c)
  exact (Array.getElem?_eq_some_iff.1 f).1
theorem XG (w:World) (p q:Value) (t:TypeId):∀ (j:Nat) (b:Value),[p,q][j]?=some b->(w.alloc (.cells #[p,q] t)).cell? (((zA w.heap.size 0):Addr).add j)=some b:=by
 intro j b a
 match j,a with
 | 0,a=>simp at a;subst a;simp [Addr.add]
 | 1,a=>simp at a;subst a;simp [Addr.add]
theorem XH (p q:Int):∀ b∈[Value.int .i64 p,Value.int .i64 q],b.oneCell'=true:=by
 intro b a;simp at a;rcases a with rfl | rfl <;> rfl
theorem Ri (v:Nat->Int) (n:Nat):(zD v n).length<=n:=by
 by_cases h:n=0
 ·subst h;simp [zD]
 exact (Yi v n (by omega)).2.2.2
theorem NK {f:Nat->Int} {t:Nat} {x:Int} {B:Nat} {w b a:World} {v c:Value} {o:Obj} (n:f t=x) (i:t=0\/f (t-1)≠f t) (g:Below B w b) (d:B<=b.heap.size)
 (m:YU b B v (zD f t))
 (l:a.ownsRow B 55 2 c ((zD f t).length+1) (cellsOf (zD f t)++[zI t,zI x])) (hg:(b.alloc o).grownBy a v.ownBlock) :
 YU a B c (zD f (t+1))/\Below B w a/\B<=a.heap.size:=by
 have e:zD f (t+1)=zD f t++[((t:Int),x)]:=by rw [zD,if_pos i,n]
 have h:Below B w a:=(g.alloc d o).grown hg (by simp;omega) (fun k j=>(m.lt k j).1);refine ⟨?_,h,?_⟩
 ·unfold YU;rw [e,YD];simpa using l
 ·have:=hg.size;simp at this;omega
theorem IV {f:Nat->Int} {t:Nat} (a:t≠0) (b:f (t-1)=f t):zD f (t+1)=zD f t:=by
 rw [zD,if_neg (by rintro (h | h);exact a h;exact h b)]
theorem Tryz.info56:(Tryz.prog.info? 55).map (fun i=>(i.zero,i.size,i.bytes))=some (some (.agg #[zI 0,zI 0]),2,16):=by kernel_rfl
def ZV (k:Nat) (jn:Int->Int->Int):Prop :=
 (∀ (args:Array Value) (w:World),(callFunc k args).run Tryz.prog w=.ok (.enter k args) w) /\
 ∀ (x y:Int) (w:World),bdd x=true->bdd y=true->zC k #[zI x,zI y] w fun e w'=>e=.returned (zI (jn x y))/\w'=w
def jv (jn:Int->Int->Int) (l1 l2:zd) (t:Nat):Int:=jn (zn l1 t) (zn l2 t)
theorem LR (k:Nat) (jn:Int->Int->Int) (aj:ZV k jn) (w:World) (b1 V n ag P W p ah:Nat) (b c:zd) (G:RunsIn w (zO b1 V) n ag b) (H:RunsIn w (zO P W) p ah c)
 (X:Xy b) (Y:Xy c) (au:∀ i,i<n->bdd (rN b i)=true) (av:∀ i,i<p->bdd (rN c i)=true) :
 zC 165 #[.slice (zO b1 V) n ag,.slice (zO P W) p ah,.func (.func k) #[] #[]] w fun e w' =>
  (wB (jv jn b c) 48=true/\∃ v,e=.returned (.tuple #[v,zI 0])/\YU w' w.heap.size v (zD (jv jn b c) 48)/\Below w.heap.size w w') \/
  (wB (jv jn b c) 48=false/\e=.returned (.tuple #[zN,zI 2])/\Below w.heap.size w w'):=by
 have ab:Zh (n=b.length):=G.len;have ad:Zh (p=c.length):=H.len;have aI:0<n:=by rw [ab.o];exact X.1
 have aJ:0<p:=by rw [ad.o];exact Y.1
 have aK:=G.cells aI;have aL:=H.cells aJ;obtain ⟨a9,bs,e,c1⟩:=aK;cases e
 obtain ⟨ba,bt,e,c2⟩:=aL;cases e
 have bp:=G.le;have bq:=H.le;have bb:=G.bound;have bc:=H.bound;have aM:=zh c1;have aN:=zh c2;have aO:=zh au;have aP:=zh av;clear c1 c2 au av;obtain ⟨bj,aZ⟩:=aj;go_enter Tryz.func165,Tryz.ntmps165;go_wp2;go_loopw [8,9,10,13] (fun v a4 a5 ao wr=>∃ (t i j:Nat),ao=zI t/\t<=48/\a4=zI i/\a5=zI j/\i<n/\j<p/\zp b i<=t/\zp c j<=t/\wB (jv jn b c) t=true/\YU wr w.heap.size v (zD (jv jn b c) t)/\(t=0->v=.slice none 0 0)/\zL w wr) (fun _ _ _ ao _=>48-(intOf ao).toNat)
 case atStart=>exact ⟨0,0,0,rfl,by omega,rfl,rfl,aI,aJ,by rw [X.2.1];exact Int.le_refl _,by rw [Y.2.1];exact Int.le_refl _,rfl,World.ownsRow_nil _ _ _ _,fun _=>rfl,Below.refl _ _⟩
 case round =>
  obtain ⟨t,i,j,rfl,bo,rfl,rfl,aY,aj,aR,aS,R,U,al,S⟩:=hrel;by_cases a0:t<48
  ·have bl:(t:Int)<48:=(by omega);have Z:=zh R;have O:=zh U;have ar:=zh al;have l:=zh S;clear R U al S;go_wp2_with fail
   refine (VF _ b1 V n ag b i t (G.later l.o) aY).mono ?_;rintro e z ⟨d,rfl,bd,C,E,F,rfl⟩;have ae:Zh (yH b t d):=⟨by have:=ab.o;omega,by
    by_cases e:i<d
    ·exact E e
    obtain rfl:i=d:=(by omega);exact aR,fun h=>F (by have:=ab.o;omega)⟩
   clear E F;go_wp2_with fail
   refine (VF _ P W p ah c j t (H.later l.o) aj).mono ?_;rintro e z ⟨f,rfl,be,D,E,F,rfl⟩;have af:Zh (yH c t f):=⟨by have:=ad.o;omega,by
    by_cases e:j<f
    ·exact E e
    obtain rfl:j=f:=(by omega);exact aS,fun h=>F (by have:=ad.o;omega)⟩
   clear E F;have aT:z.cell? (zA b1 (V+d*2+1))=some (zI (zn b t)):=(cell_later l.o (aM.o d C).2).trans (by rw [ae.o.val X];rfl);have aU:z.cell? (zA P (W+f*2+1))=some (zI (zn c t)):=(cell_later l.o (aN.o f D).2).trans (by rw [af.o.val Y];rfl);have a2:Zh (bdd (zn b t)=true):=(by show bdd (XJ b t)=true;rw [<-ae.o.val X];exact aO.o d C);have a3:Zh (bdd (zn c t)=true):=(by show bdd (XJ c t)=true;rw [<-af.o.val Y];exact aP.o f D);have bh:(d:Int)<n:=(by omega);have bi:(f:Int)<p:=(by omega);go_wp2;go_quiet ((exact Calls.quiet_of_same (aZ _ _ _ a2.o a3.o)))
   go_wp2_with fail
   obtain ⟨x,am⟩:=qA (jn (zn b t) (zn c t));rw [am];have r:Zh (jv jn b c t=x):=am;clear am;refine (Zc _ _).mono ?_;rintro e N ⟨rfl,rfl⟩;cases aA:bdd x with
   | false =>
    go_wp2;go_ret2
    refine Or.inr ⟨?_,rfl,below_drewN l.o _⟩;cases ai:wB (jv jn b c) 48 with
    | false=>rfl
    | true =>
     have:=(ZL _ 48).1 ai t a0;rw [r.o,aA] at this;cases this
   | true =>
    have aa:Zh (wB (jv jn b c) (t+1)=true):=by
     show wB (jv jn b c) (t+1)=true;rw [wB,Z.o,r.o,aA];rfl
    have A:Zh (zL w (z.drewN nq)):=below_drewN l.o _;have q:Zh (YU (z.drewN nq) w.heap.size u8 (zD (jv jn b c) t)):=O.o;generalize aD:z.drewN nq=N;rw [aD] at A q;clear aD aT aU O l;have u:Zh (zp b d<=((t+1:Nat):Int)/\zp c f<=((t+1:Nat):Int)):=⟨by have:=ae.o.2.1;omega,by have:=af.o.2.1;omega⟩;obtain ⟨aH,aB,aE,aF,aG⟩:=info_parts Tryz.info56;have ay:w.heap.size<=N.heap.size:=A.o.size;cases t with
    | zero =>
     obtain rfl:=ar.o rfl;clear ar;have M:True:=trivial;go_wp2_with (at_builtin;have _t:=M;refine wpList_append_own _ rfl _ _ 25 rfl w.heap.size 55 aH (.agg #[zI 0,zI 0]) 2 16 Tryz.underlying25 aB aE aF aG rfl (by decide) _ _ _ rfl (q.o.alloc _) (zA N.heap.size 0) 1 1 [zI 0,zI x] rfl rfl ?c1 ?c2 ?c3 ?c4 ?c5 ?_;clear M)
     case c1=>exact XG _ _ _ _
     case c2=>exact XH _ _
     case c3=>simp [zD,maxLen]
     case c4=>simp [zD]
     case c5=>simp;omega
     intro a6 a7 J I _;have B:=zh (NK (t:=0) r.o (Or.inl rfl) A.o ay q.o J I);clear J I;go_wp2;go_roundw
     case rel=>exact ⟨1,d,f,rfl,by omega,rfl,rfl,C,D,u.o.1,u.o.2,aa.o,B.o.1,fun h=>by omega,B.o.2.1⟩
     case measure=>simp [intOf]
    | succ s =>
     obtain ⟨aw,Q,aW,ax⟩:=Yi (jv jn b c) (s+1) (by omega);obtain ⟨a,cap,aC,az,_,hg⟩:=YU.parts q.o (by omega);obtain ⟨g,aX,bf,bg⟩:=hg aw;obtain ⟨m,ak⟩:∃ m,(zD (jv jn b c) (s+1)).length=m+1:=⟨(zD (jv jn b c) (s+1)).length-1,by omega⟩;have ap:=zh ak;rw [ak] at Q ax aC;subst aX;subst aC;have aV:N.cell? (zA g (m*2+1))=some (zI (jv jn b c s)):=by
      obtain ⟨a8,br,e,ai⟩:=az.cells (by omega);cases e
      have:=(ai m (by omega)).2;rw [Nat.zero_add] at this;rw [this];simp only [Nat.add_sub_cancel] at Q;rw [Q]
     have bn:(((m:Int)+1)==0)=false:=beq_eq_false_iff_ne.2 (by omega);have bm:m<48:=(by omega);clear aw Q aW ax ak az;obtain ⟨y,an⟩:=qA (jv jn b c s);rw [an] at aV;have aq:=zh an;clear an;have M:True:=trivial;by_cases L:y=x
     ·have a1:(y != x)=false:=(by simp [L]);have aQ:=zh L;clear L;go_wp2;go_roundw
      case rel=>exact ⟨s+1+1,d,f,by go_num,by omega,rfl,rfl,C,D,u.o.1,u.o.2,aa.o,by rw [IV (by omega) (by simp only [Nat.add_sub_cancel];rw [aq.o,r.o];exact aQ.o)];exact q.o,fun h=>by omega,A.o⟩
      case measure=>simp [intOf];omega
     have a1:(y != x)=true:=(by simp [L]);go_wp2_with (at_builtin;have _t:=M;refine wpList_append_own _ rfl _ _ 25 rfl w.heap.size 55 aH (.agg #[zI 0,zI 0]) 2 16 Tryz.underlying25 aB aE aF aG rfl (by decide) _ _ _ rfl (q.o.alloc _) (zA N.heap.size 0) 1 1 [zI ((s:Int)+1),zI x] rfl rfl ?c1 ?c2 ?c3 ?c4 ?c5 ?_;clear M)
     case c1=>exact XG _ _ _ _
     case c2=>exact XH _ _
     case c3=>have:=ap.o;simp only [maxLen];omega
     case c4=>have:=ap.o;omega
     case c5=>simp;omega
     intro a6 a7 J I _;have B:=zh (NK (t:=s+1) r.o (Or.inr (by simp only [Nat.add_sub_cancel];rw [aq.o,r.o];exact L)) A.o ay q.o J I);clear J I;go_wp2;go_roundw
     case rel=>exact ⟨s+1+1,d,f,by go_num,by omega,rfl,rfl,C,D,u.o.1,u.o.2,aa.o,B.o.1,fun h=>by omega,B.o.2.1⟩
     case measure=>simp [intOf];omega
  obtain rfl:t=48:=by omega
  have Z:=zh R;have O:=zh U;have l:=zh S;clear R U al S;go_wp2;go_ret2
  exact Or.inl ⟨Z.o,_,rfl,O.o,l.o⟩
theorem wP (w:World) (c h:Option Addr) (g k d i:Nat) (a b:zd) (l:RunsIn w c g d a) (n:RunsIn w h k i b) :
 zC 169 #[.slice c g d,.slice h k i] w fun e w'=>e=.returned (zI (if (xe a&&xe b)=true then 0 else 1))/\Below w.heap.size w w':=by
 cases m:xe a with
 | false =>
  have j:Wd a=1:=by simp [Wd,m]
  rw [Bool.false_and,if_neg (by decide)];go_enter Tryz.func169,Tryz.ntmps169;go_wp2_with fail
  refine (yg _ c g d a l).mono ?_;rintro e q ⟨rfl,f⟩;rw [j];go_wp2;go_ret;exact ⟨rfl,f⟩
 | true =>
  have j:Wd a=0:=by simp [Wd,m]
  have p:(if (true&&xe b)=true then (0:Int) else 1)=Wd b:=by simp [Wd]
  rw [p];go_enter Tryz.func169,Tryz.ntmps169;go_wp2_with fail
  refine (yg _ c g d a l).mono ?_;rintro e q ⟨rfl,f⟩;rw [j];go_wp2_with fail
  refine (yg _ h k i b (n.later f)).mono ?_;rintro e r ⟨rfl,o⟩;go_wp2;go_ret;exact ⟨rfl,za f o⟩
def Yc (f:Nat->Int):zd×Int:=if wB f 48=true then (zD f 48,0) else ([],2)
def xl (jn:Int->Int->Int) (l1 l2:zd):zd×Int:=if (xe l1&&xe l2)=true then Yc (jv jn l1 l2) else ([],1)
def Uf (w w':World) (e:Ending) (r:zd×Int):Prop:=∃ a n cap,e=.returned (.tuple #[.slice a n cap,zI r.2])/\RunsIn w' a n cap r.1/\Below w.heap.size w w'
theorem ZJ (w:World):RunsIn w none 0 0 []:=⟨rfl,Nat.le_refl _,by simp,by simp,fun h=>by simp at h⟩
theorem R7 (w:World) (l:zd) (c:Array Value) (n:Nat) (d:c.toList=cellsOf l) (hn:n=l.length) (e:l.length<=48):RunsIn (w.alloc (.cells c 55)) (zO w.heap.size 0) n n l:=by
 refine ⟨hn,Nat.le_refl _,by omega,by omega,fun _=>⟨w.heap.size,0,rfl,fun i f=>?_⟩⟩;rw [World.cell?_alloc_at _ _ _ _ rfl,World.cell?_alloc_at _ _ _ _ rfl];have a:=xr l i (by omega);have b:=xJ l i (by omega);rw [<-d] at a b;simp only [Array.getElem?_toList] at a b;rw [Nat.zero_add];exact ⟨a,b⟩
theorem Pb {w w':World} {a:Int} (b:Below w.heap.size w w'):Uf w w' (.returned (.tuple #[zN,zI a])) ([],a):=⟨none,0,0,rfl,ZJ _,b⟩
theorem ZV.of {k:Nat} {jn:Int->Int->Int} (c:∀ (args:Array Value) (w:World),(callFunc k args).run Tryz.prog w=.ok (.enter k args) w)
 (h:∀ (x y:Int) (w:World),-1048576<=x->x<=1048576->-1048576<=y->y<=1048576->zC k #[zI x,zI y] w fun e w'=>e=.returned (zI (jn x y))/\w'=w):ZV k jn :=
 ⟨c,fun x y w a b=>h x y w (ZA.1 a).1 (ZA.1 a).2 (ZA.1 b).1 (ZA.1 b).2⟩
theorem LQ:ZV 170 (fun x y=>x-y):=by
 refine ZV.of (fun args w=>by go_simp) fun x y w a b c d=>?_;go_enter Tryz.func170,Tryz.ntmps170;go_wp2;go_ret;exact ⟨rfl,rfl⟩
theorem Gj:ZV 188 (fun x y=>min x y):=by
 refine ZV.of (fun args w=>by go_simp) fun x y w a b c d=>?_;go_enter Tryz.func188,Tryz.ntmps188;go_wp2
 all_goals
  go_ret;exact ⟨yK (by omega),rfl⟩
theorem Gk:ZV 166 (fun x y=>x+y):=by
 refine ZV.of (fun args w=>by go_simp) fun x y w a b c d=>?_;go_enter Tryz.func166,Tryz.ntmps166;go_wp2;go_ret;exact ⟨rfl,rfl⟩
theorem Jf (k:Nat) (jn:Int->Int->Int) (x:ZV k jn) (w:World) (o p:Option Addr) (d g f h:Nat) (b c:zd) (j:RunsIn w o d g b) (l:RunsIn w p f h c)
 (q:Xy b) (r:Xy c) (t:∀ i,i<d->bdd (rN b i)=true) (u:∀ i,i<f->bdd (rN c i)=true) :
 zC 165 #[.slice o d g,.slice p f h,.func (.func k) #[] #[]] w fun e w'=>Uf w w' e (Yc (jv jn b c)):=by
 have C:0<d:=by rw [j.len];exact q.1
 have D:0<f:=by rw [l.len];exact r.1
 obtain ⟨b1,A,rfl,_⟩:=j.cells C;obtain ⟨s,B,rfl,_⟩:=l.cells D;refine (LR k jn x w b1 A d g s B f h b c j l q r t u).mono ?_;rintro e w' (⟨m,v,rfl,y,n⟩ | ⟨m,rfl,n⟩)
 ·obtain ⟨a,cap,rfl,z,_⟩:=y.parts (Ri _ 48);have:Yc (jv jn b c)=(zD (jv jn b c) 48,0):=by simp [Yc,m]
  rw [this];exact ⟨a,_,cap,rfl,z,n⟩
 ·have:Yc (jv jn b c)=([],2):=by simp [Yc,m]
  rw [this];exact Pb n
theorem Uf.from {w b c:World} {e:Ending} {r:zd×Int} (d:Below w.heap.size w b) (h:Uf b c e r):Uf w c e r:=by
 obtain ⟨a,n,cap,g,i,f⟩:=h;exact ⟨a,n,cap,g,i,za d f⟩
theorem QK (w:World) (k l:Option Addr) (v z m p:Nat) (b c:zd) (h:RunsIn w k v m b) (j:RunsIn w l z p c) :
 zC 137 #[.slice k v m,.slice l z p] w fun e w'=>Uf w w' e (xl (fun x y=>x-y) b c):=by
 cases d:(xe b&&xe c) with
 | false =>
  have f:xl (fun x y=>x-y) b c=([],1):=by simp only [xl,d];rfl
  rw [f];have s:(if (xe b&&xe c)=true then (0:Int) else 1)=1:=by rw [d];rfl
  go_enter Tryz.func137,Tryz.ntmps137;go_wp2_with fail
  refine (wP _ _ _ _ _ _ _ b c h j).mono ?_;rintro e C ⟨rfl,g⟩;rw [s];go_wp2;go_ret2
  exact Pb g
 | true =>
  have f:xl (fun x y=>x-y) b c=Yc (jv (fun x y=>x-y) b c):=by simp only [xl,d];rfl
  rw [f];have s:(if (xe b&&xe c)=true then (0:Int) else 1)=0:=by rw [d];rfl
  rw [Bool.and_eq_true] at d;have A:=zh (zX.1 d.1);have B:=zh (zX.1 d.2);obtain ⟨r,u⟩:=qB (Yc (jv (fun x y=>x-y) b c));rw [<-u];have D:=zh u;clear u f d;go_enter Tryz.func137,Tryz.ntmps137;go_wp2_with fail
  refine (wP _ _ _ _ _ _ _ b c h j).mono ?_;rintro e C ⟨rfl,g⟩;rw [s];go_wp2_with fail
  have t:=Jf 170 _ LQ C k l v m z p b c (h.later g) (j.later g) A.o.rises B.o.rises (fun i q=>A.o.bdd (by rw [<-h.len];exact q)) (fun i q=>B.o.bdd (by rw [<-j.len];exact q));rw [<-D.o] at t;refine t.mono ?_;clear t;rintro e F ⟨a,n,cap,rfl,f,E⟩;go_wp2;go_ret2
  exact ⟨a,n,cap,rfl,f,za g E⟩
def wJ (l:zd) (a b n:Int) (t:Nat):Int:=if a<=t/\(t:Int)<b then zn l t+n else zn l t
def yV (l:zd) (a b n:Int):zd×Int:=if xe l=true then (if (Xw a b&&bdd n)=true then Yc (wJ l a b n) else ([],3)) else ([],1)
theorem Lc {a b n:Int} (d:0<=a) (e:a<b):Xy [(0,0),(a,n),(b,0)]:=by
 refine ⟨by simp,rfl,fun i c=>?_⟩;simp at c
 match i,c with
 | 0,_=>simpa [zp] using d
 | 1,_=>simp [zp];omega
theorem IK {a b n:Int} (t:Nat):zn [(0,0),(a,n),(b,0)] t=if b<=t then 0 else if a<=t then n else 0:=by
 have e:zp [(0,0),(a,n),(b,0)] 2=b:=rfl;have f:zp [(0,0),(a,n),(b,0)] 1=a:=rfl;show rN [(0,0),(a,n),(b,0)] (if zp [(0,0),(a,n),(b,0)] 2<=(t:Int) then 2 else if zp [(0,0),(a,n),(b,0)] 1<=(t:Int) then 1 else 0)=_;rw [e,f];by_cases c:b<=(t:Int)
 ·rw [if_pos c,if_pos c];rfl
 rw [if_neg c,if_neg c];by_cases d:a<=(t:Int)
 ·rw [if_pos d,if_pos d];rfl
 rw [if_neg d,if_neg d];rfl
theorem Kn {l:zd} {a b n:Int}:Yc (jv (fun x y=>x+y) l [(0,0),(a,n),(b,0)])=Yc (wJ l a b n):=by
 have c:∀ t,jv (fun x y=>x+y) l [(0,0),(a,n),(b,0)] t=wJ l a b n t:=by
  intro t;simp only [jv,IK,wJ]
  split
  ·rw [if_neg (by omega)];omega
  split
  ·rw [if_pos (by omega)]
  rw [if_neg (by omega)];omega
 simp only [Yc];rw [TH 48 (fun t _=>c t),Wh 48 (fun t _=>c t)]
def SC (w w':World) (e:Ending) (r:zd×Int):Prop:=∃ a n cap,e=.returned (.tuple #[.slice a n cap,zI r.2])/\RunsIn w' a n cap r.1/\Below w.heap.size w w'/\∀ b off,a=zO b off->w.heap.size<=b
theorem Yk {w w':World} {a:Int} (b:Below w.heap.size w w'):SC w w' (.returned (.tuple #[zN,zI a])) ([],a):=⟨none,0,0,rfl,ZJ _,b,fun _ _ e=>by cases e⟩
theorem V4 (k:Nat) (jn:Int->Int->Int) (A:ZV k jn) (w:World) (q r:Option Addr) (h l j m:Nat) (c d:zd) (n:RunsIn w q h l c) (o:RunsIn w r j m d)
 (s:Xy c) (t:Xy d) (x:∀ i,i<h->bdd (rN c i)=true) (y:∀ i,i<j->bdd (rN d i)=true) :
 zC 165 #[.slice q h l,.slice r j m,.func (.func k) #[] #[]] w fun e w'=>SC w w' e (Yc (jv jn c d)):=by
 have F:0<h:=by rw [n.len];exact s.1
 have G:0<j:=by rw [o.len];exact t.1
 obtain ⟨b1,D,rfl,_⟩:=n.cells F;obtain ⟨u,E,rfl,_⟩:=o.cells G;refine (LR k jn A w b1 D h l u E j m c d n o s t x y).mono ?_;rintro e w' (⟨f,v,rfl,B,p⟩ | ⟨f,rfl,p⟩)
 ·obtain ⟨a,cap,rfl,C,_,hg⟩:=B.parts (Ri _ 48);have:Yc (jv jn c d)=(zD (jv jn c d) 48,0):=by simp [Yc,f]
  rw [this];refine ⟨a,_,cap,rfl,C,p,fun b H e=>?_⟩;obtain ⟨g,f,z,_⟩:=hg (Yi _ 48 (by omega)).1;rw [e] at f;cases f
  exact z
 ·have:Yc (jv jn c d)=([],2):=by simp [Yc,f]
  rw [this];exact Yk p
theorem OC (w:World) (k:Option Addr) (t m:Nat) (l:zd) (a b n:Int) (h:RunsIn w k t m l) :
 zC 131 #[.slice k t m,zI a,zI b,zI n] w fun e w'=>SC w w' e (yV l a b n):=by
 cases f:xe l with
 | false =>
  have c:yV l a b n=([],1):=by simp [yV,f]
  rw [c];have j:Wd l=1:=by simp [Wd,f]
  go_enter Tryz.func131,Tryz.ntmps131;go_wp2_with fail
  refine (yg _ _ _ _ l h).mono ?_;rintro e u ⟨rfl,d⟩;rw [j];go_wp2;go_ret2
  exact Yk d
 | true =>
  have j:Wd l=0:=by simp [Wd,f]
  cases g:Xw a b with
  | false =>
   have c:yV l a b n=([],3):=(by simp [yV,f,g]);rw [c];go_enter Tryz.func131,Tryz.ntmps131;go_wp2_with fail
   refine (yg _ _ _ _ l h).mono ?_;rintro e u ⟨rfl,d⟩;rw [j];go_wp2_with (go_at_call 164;refine (Vn _ _ _).mono ?_;rintro e w' ⟨rfl,rfl⟩;rw [g])
   go_ret2
   exact Yk d
  | true =>
   cases hn:bdd n with
   | false =>
    have c:yV l a b n=([],3):=(by simp [yV,f,hn]);rw [c];go_enter Tryz.func131,Tryz.ntmps131;go_wp2_with fail
    refine (yg _ _ _ _ l h).mono ?_;rintro e u ⟨rfl,d⟩;rw [j];go_wp2_with (first | (go_at_call 164;refine (Vn _ _ _).mono ?_;rintro e w' ⟨rfl,rfl⟩;rw [g]) | (go_at_call 152;refine (Zc _ _).mono ?_;rintro e w' ⟨rfl,rfl⟩;rw [hn]))
    go_ret2
    exact Yk d
   | true =>
    have B:=of_decide_eq_true g;have c:yV l a b n=Yc (jv (fun x y=>x+y) l [(0,0),(a,n),(b,0)]):=(by rw [Kn];simp [yV,f,g,hn]);rw [c];have v:=zh (zX.1 f);have z:=zh B;obtain ⟨r,s⟩:=qB (Yc (jv (fun x y=>x+y) l [(0,0),(a,n),(b,0)]));rw [<-s];have C:=zh s;clear s c f B;go_enter Tryz.func131,Tryz.ntmps131;go_wp2_with fail
    refine (yg _ _ _ _ l h).mono ?_;rintro e u ⟨rfl,d⟩;rw [j];go_wp2_with (first | (go_at_call 164;refine (Vn _ _ _).mono ?_;rintro e w' ⟨rfl,rfl⟩;rw [g]) | (go_at_call 152;refine (Zc _ _).mono ?_;rintro e w' ⟨rfl,rfl⟩;rw [hn]))
    have A:zL w' (w'.alloc (.cells #[zI 0,zI 0,zI a,zI n,zI b,zI 0] 55)):=zr _ _;have q:=V4 166 _ Gk _ k (zO w'.heap.size 0) t m 3 3 l [(0,0),(a,n),(b,0)] ((h.later d).later A) (R7 w' [(0,0),(a,n),(b,0)] _ 3 rfl rfl (by simp)) v.o.rises (Lc z.o.1 z.o.2.1) (fun i p=>v.o.bdd (by rw [<-h.len];exact p)) (fun i p=>by
     match i,p with
     | 0,_=>rfl
     | 1,_=>exact hn
     | 2,_=>rfl)
    rw [<-C.o] at q;refine q.mono ?_;clear q;rintro e M ⟨D,I,E,rfl,c,G,H⟩;go_wp2;go_ret2
    exact ⟨D,I,E,rfl,c,za (za d A) G,fun b J e=>by have F:=H b J e;have L:=d.size;simp at F;omega⟩
end Go.Proofs.YtckpdfkobdgjeaaGreatDoor
