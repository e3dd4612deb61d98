/- Plain facts on runs, as lists of pairs (from when on, how much): no Go text in sight. -/
import Derived.Test.YtckpdfkobdgjeaaGreatDoorProg
import Derived.Below
import Derived.WalkKit
namespace Go.Proofs.YtckpdfkobdgjeaaGreatDoor
open Go.RowKit
abbrev zI (n:Int):Value:=.int .i64 n
abbrev zA (b o:Nat):Addr:=⟨b,o,none⟩
abbrev zO (b o:Nat):Option Addr:=some ⟨b,o,none⟩
abbrev zN:Value:=.slice none 0 0
abbrev zZ:Array Value:=#[.int .i64 0,.int .i64 0,.slice none 0 0,.slice none 0 0]
abbrev zS (c n:Int) (a:Option Addr) (m k:Nat) (b:Option Addr) (i j:Nat):Array Value:=#[.int .i64 c,.int .i64 n,.slice a m k,.slice b i j]
abbrev zL (w w':World):Prop:=Below w.heap.size w w'
theorem zr (w:World) (o:Obj):Below w.heap.size w (w.alloc o):=(Below.refl _ _).alloc (Nat.le_refl _) o
abbrev zC:=Calls Tryz.prog
def Zh (p:Prop):Prop:=p
theorem zh {p:Prop} (h:p):Zh p:=h
theorem Zh.o {p:Prop} (h:Zh p):p:=h
theorem Zh.out {p:Prop} (h:Zh p):p:=h
def tt (a:Nat) (l:List Bool) (b:Nat):List Bool:=List.replicate a true++(l++List.replicate b true)
theorem qA {A:Sort _} (a:A):∃ x,a=x:=⟨a,rfl⟩
theorem qB {A:Sort _} (a:A):∃ x,x=a:=⟨a,rfl⟩
def bdd (n:Int):Bool:=decide (-1048576<=n/\n<=1048576)
def yW (n lo hi:Int):Bool:=decide (lo<=n/\n<=hi)
def Xw (a b:Int):Bool:=decide (0<=a/\a<b/\b<=48)
theorem ZA {n:Int}:bdd n=true↔-1048576<=n/\n<=1048576:=by simp [bdd]
abbrev zd:=List (Int×Int)
def zp (l:zd) (i:Nat):Int:=(l.getD i (0,0)).1
def rN (l:zd) (i:Nat):Int:=(l.getD i (0,0)).2
def XW (l:zd) (i:Nat):Prop :=
 (i=0->zp l 0=0)/\zp l i<48/\bdd (rN l i)=true/\(0<i->zp l (i-1)<zp l i/\rN l i≠rN l (i-1))
def zW (l:zd):Prop:=0<l.length/\∀ i,i<l.length->XW l i
def F4 (l:zd) (i:Nat):Bool :=
 decide ((i=0->zp l 0=0)/\zp l i<48/\bdd (rN l i)=true/\(0<i->zp l (i-1)<zp l i/\rN l i≠rN l (i-1)))
theorem Gr {l:zd} {i:Nat}:F4 l i=true↔XW l i:=decide_eq_true_iff
def Rf (l:zd):Nat->Bool
 | 0=>true
 | n+1=>Rf l n&&F4 l n
def xe (l:zd):Bool:=decide (0<l.length)&&Rf l l.length
theorem Rg (l:zd):∀ n,Rf l n=true↔∀ i,i<n->XW l i
 | 0=>by simp [Rf]
 | n+1=>by
  simp only [Rf,Bool.and_eq_true,Gr,Rg l n]
  constructor
  ·rintro ⟨a,b⟩ i c;by_cases e:i=n
   ·subst e;exact b
   exact a i (by omega)
  intro h;exact ⟨fun i c=>h i (by omega),h n (by omega)⟩
theorem zX {l:zd}:xe l=true↔zW l:=by
 simp [xe,zW,Rg]
theorem Ng {l:zd}:xe l=false↔¬zW l:=by
 rw [<-zX];simp
theorem zW.at0 {l:zd} (h:zW l):zp l 0=0:=(h.2 0 h.1).1 rfl
theorem zW.lt {l:zd} (h:zW l) {i:Nat} (a:i+1<l.length):zp l i<zp l (i+1):=((h.2 (i+1) a).2.2.2 (by omega)).1
theorem zW.ne {l:zd} (h:zW l) {i:Nat} (a:i+1<l.length):rN l (i+1)≠rN l i:=((h.2 (i+1) a).2.2.2 (by omega)).2
theorem zW.le {l:zd} (h:zW l) {j:Nat}:∀ {i:Nat},i<=j->j<l.length->zp l i<=zp l j:=by
 induction j with
 | zero =>
  intro i a _;have:i=0:=by omega
  subst this;exact Int.le_refl _
 | succ j ih =>
  intro i a b;by_cases e:i=j+1
  ·subst e;exact Int.le_refl _
  have:=ih (i:=i) (by omega) (by omega);have:=h.lt b;omega
theorem zW.nonneg {l:zd} (h:zW l) {i:Nat} (a:i<l.length):0<=zp l i:=by
 have:=h.le (Nat.zero_le i) a;rw [h.at0] at this;exact this
theorem zW.below {l:zd} (h:zW l) {i:Nat} (a:i<l.length):zp l i<48:=(h.2 i a).2.1
theorem zW.bdd {l:zd} (h:zW l) {i:Nat} (a:i<l.length):bdd (rN l i)=true:=(h.2 i a).2.2.1
theorem zW.idx {l:zd} (h:zW l):∀ {i:Nat},i<l.length->(i:Int)<=zp l i:=by
 intro i
 induction i with
 | zero=>intro _;rw [h.at0];simp
 | succ i ih=>intro a;have:=ih (by omega);have:=h.lt a;omega
theorem zW.short {l:zd} (h:zW l):l.length<=48:=by
 have a:=h.1;have b:=h.idx (i:=l.length-1) (by omega);have c:=h.below (i:=l.length-1) (by omega);omega
def Xy (l:zd):Prop:=0<l.length/\zp l 0=0/\∀ i,i+1<l.length->zp l i<=zp l (i+1)
theorem zW.rises {l:zd} (h:zW l):Xy l:=⟨h.1,h.at0,fun i a=>by have:=h.lt a;omega⟩
theorem Xy.le {l:zd} (h:Xy l) {j:Nat}:∀ {i:Nat},i<=j->j<l.length->zp l i<=zp l j:=by
 induction j with
 | zero =>
  intro i a _;have:i=0:=by omega
  subst this;exact Int.le_refl _
 | succ j ih =>
  intro i a b;by_cases e:i=j+1
  ·subst e;exact Int.le_refl _
  have:=ih (i:=i) (by omega) (by omega);have:=h.2.2 j b;omega
def yH (l:zd) (t:Int) (j:Nat):Prop:=j<l.length/\zp l j<=t/\(j+1<l.length->t<zp l (j+1))
def Rw (l:zd) (t:Int):Nat->Nat
 | 0=>0
 | n+1=>if zp l (n+1)<=t then n+1 else Rw l t n
def XJ (l:zd) (t:Int):Int:=rN l (Rw l t (l.length-1))
theorem yH.last {l:zd} {t:Int} {j:Nat} (a:Xy l) (h:yH l t j):∀ n,j<=n->n<l.length->Rw l t n=j
 | 0,hn,_=>by simp [Rw];omega
 | n+1,hn,hl=>by
  unfold Rw;by_cases e:j=n+1
  ·subst e;rw [if_pos h.2.1]
  have b:=h.2.2 (by omega);have c:=a.le (i:=j+1) (j:=n+1) (by omega) hl;rw [if_neg (by omega)];exact yH.last a h n (by omega) (by omega)
theorem yH.val {l:zd} {t:Int} {j:Nat} (a:Xy l) (h:yH l t j):rN l j=XJ l t:=by
 unfold XJ;rw [h.last a (l.length-1) (by have:=h.1;omega) (by have:=h.1;omega)]
theorem V8 {l:zd} (c:Xy l) {t:Int} (d:0<=t):∃ j,yH l t j:=by
 have:∀ n,n<l.length->(n+1<l.length->t<zp l (n+1))->∃ j,yH l t j:=by
  intro n
  induction n with
  | zero=>intro a b;exact ⟨0,a,by rw [c.2.1];exact d,b⟩
  | succ n ih =>
   intro a b;by_cases e:zp l (n+1)<=t
   ·exact ⟨n+1,a,e,b⟩
   exact ih (by omega) (fun _=>by omega)
 exact this (l.length-1) (by have:=c.1;omega) (fun h=>by omega)
theorem Tv {l:zd} (h:zW l) (t:Int) (b:0<=t):bdd (XJ l t)=true:=by
 obtain ⟨j,a⟩:=V8 h.rises b;rw [<-a.val h.rises];exact h.bdd a.1
def zD (v:Nat->Int):Nat->zd
 | 0=>[]
 | t+1=>if t=0\/v (t-1)≠v t then zD v t++[((t:Int),v t)] else zD v t
def wB (v:Nat->Int):Nat->Bool
 | 0=>true
 | t+1=>wB v t&&bdd (v t)
theorem ZL (v:Nat->Int):∀ n,wB v n=true↔∀ i,i<n->bdd (v i)=true
 | 0=>by simp [wB]
 | n+1=>by
  simp only [wB,Bool.and_eq_true,ZL v n]
  constructor
  ·rintro ⟨a,b⟩ i c;by_cases e:i=n
   ·subst e;exact b
   exact a i (by omega)
  intro h;exact ⟨fun i c=>h i (by omega),h n (by omega)⟩
theorem MB {v:Nat->Int} {a b:Nat} (h:wB v b=true) (c:a<=b):wB v a=true:=by
 rw [ZL] at *;exact fun i d=>h i (by omega)
theorem Wp (l:zd) (x:Int×Int) (i:Nat) (h:i<l.length):zp (l++[x]) i=zp l i:=by
 simp [zp,List.getD,List.getElem?_append_left h]
theorem RY (l:zd) (x:Int×Int) (i:Nat) (h:i<l.length):rN (l++[x]) i=rN l i:=by
 simp [rN,List.getD,List.getElem?_append_left h]
theorem Wq (l:zd) (x:Int×Int):zp (l++[x]) l.length=x.1:=by simp [zp,List.getD]
theorem Tq (l:zd) (x:Int×Int):rN (l++[x]) l.length=x.2:=by simp [rN,List.getD]
theorem Yi (v:Nat->Int):∀ n,0<n->0<(zD v n).length/\rN (zD v n) ((zD v n).length-1)=v (n-1)/\zp (zD v n) ((zD v n).length-1)<n/\(zD v n).length<=n
 | 0,h=>by omega
 | 1,_=>by simp [zD,rN,zp]
 | n+2,_=>by
  obtain ⟨c,d,g,i⟩:=Yi v (n+1) (by omega);unfold zD;by_cases e:(n+1=0\/v (n+1-1)≠v (n+1))
  ·rw [if_pos e];have f:(zD v (n+1)++[((((n+1:Nat)):Int),v (n+1))]).length-1=(zD v (n+1)).length:=(by simp);rw [f,Tq,Wq];refine ⟨by simp,by simp,by simp only [];omega,by simp;omega⟩
  rw [if_neg e];have b:v n=v (n+1):=by
   by_cases a:v n=v (n+1)
   ·exact a
   exact absurd (Or.inr (by simpa using a)) e
  refine ⟨c,?_,by omega,by omega⟩;rw [d];simpa using b
theorem ZP (v:Nat->Int) (n:Nat) (hn:0<n) (u:n<=48) (b:wB v n=true):zW (zD v n):=by
 refine ⟨(Yi v n hn).1,?_⟩
 induction n with
 | zero=>omega
 | succ n ih =>
  intro i a;by_cases l:n=0
  ·subst l;have p:bdd (v 0)=true:=(ZL v 1).1 b 0 (by omega);simp [zD] at a ⊢;subst a;simp [XW,zp,rN,p]
  have f:=ih (by omega) (by omega) (MB b (by omega));obtain ⟨m,o,s,t⟩:=Yi v n (by omega);have r:bdd (v n)=true:=(ZL v (n+1)).1 b n (by omega);unfold zD at a ⊢;by_cases e:(n=0\/v (n-1)≠v n)
  ·rw [if_pos e] at a ⊢;by_cases c:i<(zD v n).length
   ·obtain ⟨g,h,j,k⟩:=f i c;unfold XW;rw [Wp _ _ _ c,RY _ _ _ c,Wp _ _ _ m];refine ⟨g,h,j,fun d=>?_⟩;rw [Wp _ _ _ (by omega),RY _ _ _ (by omega)];exact k d
   have:i=(zD v n).length:=(by simp at a;omega);subst this;unfold XW;rw [Wq,Tq];refine ⟨by omega,by simp only [];omega,r,fun d=>?_⟩;rw [Wp _ _ _ (by omega),RY _ _ _ (by omega),o];refine ⟨by simp only [];omega,?_⟩;rcases e with e | e
   ·omega
   exact fun q=>e q.symm
  rw [if_neg e] at a ⊢;exact f i a
theorem Rj (v:Nat->Int) (n:Nat) (hn:0<n):∀ t,t<n->∃ j,yH (zD v n) (t:Int) j/\rN (zD v n) j=v t:=by
 induction n with
 | zero=>omega
 | succ n ih =>
  intro t p;by_cases g:n=0
  ·subst g;have:t=0:=(by omega);subst this;exact ⟨0,by simp [yH,zD,zp],by simp [zD,rN]⟩
  obtain ⟨l,i,m,o⟩:=Yi v n (by omega);unfold zD;by_cases e:(n=0\/v (n-1)≠v n)
  ·rw [if_pos e];by_cases b:t=n
   ·subst b;refine ⟨(zD v t).length,⟨by simp,by rw [Wq];exact Int.le_refl _,fun h=>by simp at h⟩,by rw [Tq]⟩
   obtain ⟨j,a,k⟩:=ih (by omega) t (by omega);refine ⟨j,⟨by simp;have:=a.1;omega,by rw [Wp _ _ _ a.1];exact a.2.1,fun h=>?_⟩,by rw [RY _ _ _ a.1];exact k⟩;by_cases d:j+1<(zD v n).length
   ·rw [Wp _ _ _ d];exact a.2.2 d
   have:j+1=(zD v n).length:=(by have:=a.1;omega);rw [this,Wq];simp only [];omega
  rw [if_neg e];have f:v (n-1)=v n:=by
   by_cases c:v (n-1)=v n
   ·exact c
   exact absurd (Or.inr c) e
  by_cases b:t=n
  ·subst b;exact ⟨(zD v t).length-1,⟨by omega,by omega,fun h=>by omega⟩,by rw [i,f]⟩
  exact ih (by omega) t (by omega)
theorem Yj (v:Nat->Int) (a:wB v 48=true) (t:Nat) (c:t<48):XJ (zD v 48) t=v t:=by
 obtain ⟨j,b,d⟩:=Rj v 48 (by omega) t c;rw [<-d,<-b.val (ZP v 48 (by omega) (by omega) a).rises]
theorem Wh {v u:Nat->Int}:∀ n,(∀ t,t<n->v t=u t)->zD v n=zD u n
 | 0,_=>rfl
 | n+1,h=>by
  unfold zD;rw [Wh n (fun t a=>h t (by omega)),h n (by omega)];by_cases e:n=0
  ·simp [e]
  rw [h (n-1) (by omega)]
theorem TH {v u:Nat->Int}:∀ n,(∀ t,t<n->v t=u t)->wB v n=wB u n
 | 0,_=>rfl
 | n+1,h=>by unfold wB;rw [TH n (fun t a=>h t (by omega)),h n (by omega)]
end Go.Proofs.YtckpdfkobdgjeaaGreatDoor
