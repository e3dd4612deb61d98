/- Several texts in one: PlaceM, PlaceA, PlaceB, PlaceC, PlaceH, PlaceN, PlaceD, PlaceE, PlaceF, PlaceG, PlaceO. -/
import Derived.Test.YtckpdfkobdgjeaaGreatDoorJRunsAll
import Derived.Test.YtckpdfkobdgjeaaGreatDoorJReqAll
import Derived.OwnWalk
import Derived.Test.YtckpdfkobdgjeaaGreatDoorJAny
import Derived.Deep.DeepCutAuto
import Derived.Deep.RegionHeld3
import Derived.Maps.AppendAt
import Derived.WideMake
import Derived.Carry
namespace Go.Proofs.YtckpdfkobdgjeaaGreatDoor
set_option maxRecDepth 100000
set_option maxHeartbeats 4000000
open Go.RowKit
set_option linter.unusedSectionVars false
variable [Inhabited Mk]
def zw (p:Nat->Bool):Nat->Nat->Option Nat
 | _,0=>none
 | a,k+1=>if p a=true then some a else zw p (a+1) k
theorem yz {p:Nat->Bool} {t:Nat}:∀ {k a:Nat},zw p a k=some t->a<=t/\t<a+k/\p t=true/\∀ s,a<=s->s<t->p s=false
 | 0,a,h=>by simp [zw] at h
 | k+1,a,h=>by
  rw [zw] at h
  split at h
  ·rename_i hp;injection h with h;subst h;exact ⟨Nat.le_refl _,by omega,hp,fun s c d=>by omega⟩
  rename_i hp;obtain ⟨c,d,f,g⟩:=yz h;refine ⟨by omega,by omega,f,fun s i b=>?_⟩;by_cases e:s=a
  ·subst e;simpa using hp
  exact g s (by omega) b
theorem Yy {p:Nat->Bool}:∀ {k a:Nat},zw p a k=none->∀ s,a<=s->s<a+k->p s=false
 | 0,a,_,s,h1,h2=>by omega
 | k+1,a,h,s,h1,h2=>by
  rw [zw] at h
  split at h
  ·cases h
  rename_i hp;by_cases e:s=a
  ·subst e;simpa using hp
  exact Yy h s (by omega) (by omega)
theorem XB {p:Nat->Bool}:∀ {k a:Nat},(∀ s,a<=s->s<a+k->p s=false)->zw p a k=none
 | 0,a,_=>rfl
 | k+1,a,h=>by rw [zw,h a (Nat.le_refl _) (by omega),if_neg (by decide),XB (fun s b c=>h s (by omega) (by omega))]
theorem Zn {p:Nat->Bool} {a k:Nat} (b:0<k) (h:p a=true):zw p a k=some a:=by
 obtain ⟨m,rfl⟩:∃ m,k=m+1:=⟨k-1,by omega⟩;rw [zw,if_pos h]
theorem wQ {p:Nat->Bool} {a k:Nat} (b:0<k) (h:p a=false):zw p a k=zw p (a+1) (k-1):=by
 obtain ⟨m,rfl⟩:∃ m,k=m+1:=⟨k-1,by omega⟩;rw [zw,h,if_neg (by decide)];rfl
def UV (f:zd) (u L:Nat) (n:Int) (t:Nat):Bool:=decide (t+L<=u)&&decide (n<=YT (zn f) t L)
theorem Jt {f:zd} {u L t:Nat} {n:Int} (h:0<L):UV f u L n t=true↔t+L<=u/\∀ s,t<=s->s<t+L->n<=zn f s:=by
 rw [UV,Bool.and_eq_true,decide_eq_true_iff,decide_eq_true_iff];obtain ⟨c,s,d,e,g⟩:=Y9 (zn f) t L h
 constructor
 ·rintro ⟨a,b⟩;exact ⟨a,fun s i j=>by have:=c s i j;omega⟩
 rintro ⟨a,b⟩;exact ⟨a,by rw [g];exact b s d e⟩
def WR (f:zd) (fr u L:Nat) (n:Int):Option Nat:=zw (UV f u L n) fr (u-fr)
def yp (f:zd) (fr un size n:Int):Int×Bool×Int :=
 if xe f=true then (if (Xw fr un&&yW size 1 24)=true then (match WR f fr.toNat un.toNat size.toNat n with | some t=>((t:Int),true,0) | none=>(0,false,0)) else (0,false,3)) else (0,false,1)
theorem MU {f:zd} {F a L t:Nat} {n:Int} (b:xe f=true) (c:(Xw F a&&yW L 1 24)=true) (h:WR f F a L n=some t):yp f F a L n=((t:Int),true,0):=by
 simp only [yp,b,c,if_true,Int.toNat_natCast,h]
theorem Nh {f:zd} {F a L:Nat} {n:Int} (b:xe f=true) (c:(Xw F a&&yW L 1 24)=true) (h:WR f F a L n=none):yp f F a L n=(0,false,0):=by
 simp only [yp,b,c,if_true,Int.toNat_natCast,h]
theorem Jg {f:zd} (a:xe f=true) {t L:Nat} (c:0<L) (h:t+L<=48):xN f (t:Int) ((t:Int)+L)=(YT (zn f) t L,0):=by
 have b:Xw (t:Int) ((t:Int)+L)=true:=by simp [Xw];omega
 have e:((t:Int)+L).toNat-t=L:=by omega
 simp only [xN,a,b,if_true,Int.toNat_natCast,e]
theorem JS (w:World) (a:Option Addr) (n g:Nat) (f:zd) (h:RunsIn w a n g f) (B:xe f=true) (fr un c m:Int) (F b L:Nat) (y:fr=F) (A:un=b) (z:c=L) (ag:F<b) (aj:b<=48) (ah:1<=L) (ai:L<=24) :
 zC 184 #[.slice a n g,zI fr,zI un,zI c,zI m] w fun e w'=>e=.returned (.tuple #[zI (yp f fr un c m).1,.bool (yp f fr un c m).2.1,zI (yp f fr un c m).2.2])/\Below w.heap.size w w':=by
 have P:Wd f=0:=by simp [Wd,B]
 have Q:(Xw F b&&yW L 1 24)=true:=by simp [Xw,yW];omega
 have J:=zh Q;have q:=zh B;have U:=zh P;have H:=zh h;clear Q B P h;obtain ⟨x,i⟩:=qA (yp f fr un c m);rw [i];rw [y,A,z] at i;have M:=zh i;have V:¬fr<0:=by omega
 have W:¬un<=fr:=by omega
 have aa:¬48<un:=by omega
 have ab:¬c<1:=by omega
 have ad:¬24<c:=by omega
 have R:=zh y;have E:=zh A;have k:=zh z;clear i y A z;go_enter Tryz.func184,Tryz.ntmps184;go_wp2_with fail
 refine (yg w a n g f H.o).mono ?_;rintro e ak ⟨rfl,d⟩;rw [U.o];have S:=zh d;clear d;go_wp2_with fail
 go_loopw [14] (fun D wr=>∃ t:Nat,D=zI t/\F<=t/\t<=b/\WR f F b L m=zw (UV f b L m) t (b-t)/\zL w wr) (fun D _=>b-(intOf D).toNat)
 case atStart=>exact ⟨F,by rw [R.o],Nat.le_refl _,by omega,rfl,S.o⟩
 case round =>
  obtain ⟨t,rfl,ae,af,N,O⟩:=hrel;have l:=zh N;have p:=zh O;clear N O;by_cases X:t+L<=b
  ·have Y:(t:Int)+c<=un:=(by have:=E.o;have:=k.o;omega);have r:=zh (Jg q.o (t:=t) (L:=L) (by omega) (by omega));rw [<-k.o] at r;obtain ⟨j,C⟩:=qA (YT (zn f) t L);rw [C] at r;have I:=zh C;clear C;go_wp2_with fail
   have v:=QJ wr a n g f (t:Int) ((t:Int)+c) (H.o.later p.o);rw [r.o] at v;refine v.mono ?_;clear v;rintro e al ⟨rfl,d⟩;have G:=zh (za p.o d);clear d;by_cases Z:m<=j
   ·have u:Zh (yp f F b L m=((t:Int),true,0)):=MU q.o J.o (l.o.trans (Zn (by omega) (by rw [UV,decide_eq_true X,I.o,decide_eq_true Z];rfl)));go_wp2;go_ret3
    exact ⟨by rw [<-M.o,u.o];rfl,G.o⟩
   go_wp2;go_roundw
   case rel=>exact ⟨t+1,by go_num,by omega,by omega,by rw [l.o,wQ (by omega) (by rw [UV,I.o,decide_eq_false (show ¬m<=j by omega),Bool.and_false])];rfl,G.o⟩
   case measure=>simp [intOf];omega
  have Y:¬(t:Int)+c<=un:=by have:=E.o;have:=k.o;omega
  have u:Zh (yp f F b L m=(0,false,0)):=Nh q.o J.o (l.o.trans (XB fun s V W=>by rw [UV,decide_eq_false (by omega),Bool.false_and]));go_wp2;go_ret3
  exact ⟨by rw [<-M.o,u.o];rfl,p.o⟩
theorem Kb (w:World) (a:Option Addr) (n d:Nat) (f:zd) (h:RunsIn w a n d f) (fr un b m:Int) :
 zC 184 #[.slice a n d,zI fr,zI un,zI b,zI m] w fun e w'=>e=.returned (.tuple #[zI (yp f fr un b m).1,.bool (yp f fr un b m).2.1,zI (yp f fr un b m).2.2])/\Below w.heap.size w w':=by
 cases i:xe f with
 | false =>
  have k:yp f fr un b m=(0,false,1):=by simp [yp,i]
  have g:Wd f=1:=by simp [Wd,i]
  rw [k];go_enter Tryz.func184,Tryz.ntmps184;go_wp2_with fail
  refine (yg w a n d f h).mono ?_;rintro e j ⟨rfl,c⟩;rw [g];go_wp2;go_ret3
  exact ⟨rfl,c⟩
 | true =>
  by_cases l:0<=fr/\fr<un/\un<=48/\1<=b/\b<=24
  ·obtain ⟨t,u,v,x,y⟩:=l;exact JS w a n d f h i fr un b m fr.toNat un.toNat b.toNat (by omega) (by omega) (by omega) (by omega) (by omega) (by omega) (by omega)
  have k:yp f fr un b m=(0,false,3):=by
   have:(Xw fr un&&yW b 1 24)=false:=by
    rw [Bool.eq_false_iff];simp [Xw,yW];omega
   simp [yp,i,this]
  have g:Wd f=0:=by simp [Wd,i]
  rw [k];by_cases o:fr<0
  ·go_enter Tryz.func184,Tryz.ntmps184;go_wp2_with fail
   refine (yg w a n d f h).mono ?_;rintro e j ⟨rfl,c⟩;rw [g];go_wp2;go_ret3
   exact ⟨rfl,c⟩
  by_cases p:un<=fr
  ·go_enter Tryz.func184,Tryz.ntmps184;go_wp2_with fail
   refine (yg w a n d f h).mono ?_;rintro e j ⟨rfl,c⟩;rw [g];go_wp2;go_ret3
   exact ⟨rfl,c⟩
  by_cases q:48<un
  ·go_enter Tryz.func184,Tryz.ntmps184;go_wp2_with fail
   refine (yg w a n d f h).mono ?_;rintro e j ⟨rfl,c⟩;rw [g];go_wp2;go_ret3
   exact ⟨rfl,c⟩
  by_cases r:b<1
  ·go_enter Tryz.func184,Tryz.ntmps184;go_wp2_with fail
   refine (yg w a n d f h).mono ?_;rintro e j ⟨rfl,c⟩;rw [g];go_wp2;go_ret3
   exact ⟨rfl,c⟩
  have s:24<b:=by omega
  clear l;go_enter Tryz.func184,Tryz.ntmps184;go_wp2_with fail
  refine (yg w a n d f h).mono ?_;rintro e j ⟨rfl,c⟩;rw [g];go_wp2;go_ret3
  exact ⟨rfl,c⟩
theorem Xt (w:World) (r:Rq) (b:Option Addr) (d c:Nat):∀ X:World,Below (w.alloc (.cells #[zI r.queue,zI r.fr,zI r.un,zI r.kind,.slice r.pa r.pn r.pc,.slice b d c] 117)).heap.size (w.alloc (.cells #[zI r.queue,zI r.fr,zI r.un,zI r.kind,.slice r.pa r.pn r.pc,.slice b d c] 117)) X ->
 X.cell? (zA w.heap.size 0)=some (zI r.queue)/\X.cell? (zA w.heap.size 1)=some (zI r.fr)/\X.cell? (zA w.heap.size 2)=some (zI r.un)/\X.cell? (zA w.heap.size 3)=some (zI r.kind)/\X.cell? (zA w.heap.size 4)=some (.slice r.pa r.pn r.pc)/\X.cell? (zA w.heap.size 5)=some (.slice b d c) :=
 fun X a=>⟨cell_later a (by go_simp),cell_later a (by go_simp),cell_later a (by go_simp),cell_later a (by go_simp),cell_later a (by go_simp),cell_later a (by go_simp)⟩
theorem Xs (w:World) (r:Rq) (h:zH w r) (l:Option Addr) (n m:Nat) (f:zd) (O:RunsIn w l n m f) (i:Nat) (D:i<r.pn) (fm:Int) :
 zC 155 #[.agg #[zI r.queue,zI r.fr,zI r.un,zI r.kind,.slice r.pa r.pn r.pc,.slice l n m],zI i,zI fm] w fun e w'=>e=.returned (.tuple #[zI (yp f fm r.un (zp r.ps i) (rN r.ps i)).1,.bool (yp f fm r.un (zp r.ps i) (rN r.ps i)).2.1])/\Below w.heap.size w w':=by
 have A:=zh ((Below.refl w.heap.size w).alloc (Nat.le_refl _) (.cells #[zI r.queue,zI r.fr,zI r.un,zI r.kind,.slice r.pa r.pn r.pc,.slice l n m] 117));have B:=zh (Xt w r l n m);obtain ⟨s,t,u,E⟩:=h.cells (by omega);have ah:=h.capb;have aj:=h.le;have ai:(i:Int)<r.pn:=by omega
 have J:Zh (∀ X:World,Below (w.alloc (.cells #[zI r.queue,zI r.fr,zI r.un,zI r.kind,.slice r.pa r.pn r.pc,.slice l n m] 117)).heap.size (w.alloc (.cells #[zI r.queue,zI r.fr,zI r.un,zI r.kind,.slice r.pa r.pn r.pc,.slice l n m] 117)) X->X.cell? (zA s (t+i*2))=some (zI (zp r.ps i))/\X.cell? (zA s (t+i*2+1))=some (zI (rN r.ps i))) :=
  fun X N=>⟨cell_later (za A.o N) (E i D).1,cell_later (za A.o N) (E i D).2⟩
 have L:=zh fun Q (b:zL w Q)=>Kb Q l n m f (O.later b) fm r.un (zp r.ps i) (rN r.ps i);obtain ⟨x,G⟩:=qA ((yp f fm r.un (zp r.ps i) (rN r.ps i)).1);obtain ⟨y,H⟩:=qA ((yp f fm r.un (zp r.ps i) (rN r.ps i)).2.1);obtain ⟨z,P⟩:=qA ((yp f fm r.un (zp r.ps i) (rN r.ps i)).2.2);rw [G,H,P] at L;rw [G,H];clear G H P E h O D;have I:=zh u;clear u;go_enter Tryz.func155,Tryz.ntmps155;go_wp2_with fail
 go_cut [8,9] (fun p q aa=>p=zI x/\q=.bool y/\zL w aa)
 case first =>
  have u:=I.o;clear I;refine zV ((Tryz.f155.body.bind fun c=>yi c 1).getD #[]) (by kernel_rfl) [zl (.pointer (zO w.heap.size 5)),zl (.slice l n m),zl (zI fm),zl (.pointer (zO w.heap.size 0)),zl (.pointer (zO w.heap.size 2)),zl (zI r.un),zl (.pointer (zO w.heap.size 0)),zl (.pointer (zO w.heap.size 4)),zl (.slice (zO s t) r.pn r.pc),zl (zI i),zl (.pointer (zO s (t+i*2))),zl (.pointer (zO s (t+i*2))),zl (zI (zp r.ps i)),zl (.pointer (zO w.heap.size 0)),zl (.pointer (zO w.heap.size 4)),zl (.slice (zO s t) r.pn r.pc),zl (zI i),zl (.pointer (zO s (t+i*2))),zl (.pointer (zO s (t+i*2+1))),zl (zI (rN r.ps i)),zl (.tuple #[zI x,.bool y,zI z]),zl (.tuple #[zI x,.bool y,zI z]),zl (zI x),zl (.bool y),zl (zI z),zl (zI x),zl (.bool y),zl (zI z)] [] (by kernel_rfl) (by kernel_rfl) (by kernel_rfl) ?hg ?hstep ?hfin
  case hg =>
   intro g hg v w h;cases hg
  case hstep =>
   refine zc.cons 1 rfl ?_ ?_
   ·intro T w' b j a;have k:T.getD 3 undef=.pointer (zO w.heap.size 0):=j 3;exact zs (by go_simp) rfl
   refine zc.cons 2 rfl ?_ ?_
   ·intro T w' b j a;have k:T.getD 12 undef=_:=a 0 12;obtain ⟨C,c1,c2,c3,c4,c5⟩:=B.o w' b;exact zs (by go_simp) rfl
   refine zc.cons 3 rfl ?_ ?_
   ·intro T w' b j a;have k:T.getD 2 undef=zI fm:=j 2;exact zs (by go_simp) rfl
   refine zc.cons 4 rfl ?_ ?_
   ·intro T w' b j a;have k:T.getD 3 undef=.pointer (zO w.heap.size 0):=j 3;exact zs (by go_simp) rfl
   refine zc.cons 5 rfl ?_ ?_
   ·intro T w' b j a;have k:T.getD 15 undef=_:=a 3 15;exact zs (by go_simp) rfl
   refine zc.cons 6 rfl ?_ ?_
   ·intro T w' b j a;have k:T.getD 16 undef=_:=a 4 16;obtain ⟨C,c1,c2,c3,c4,c5⟩:=B.o w' b;exact zs (by go_simp) rfl
   refine zc.cons 7 rfl ?_ ?_
   ·intro T w' b j a;have k:T.getD 3 undef=.pointer (zO w.heap.size 0):=j 3;exact zs (by go_simp) rfl
   refine zc.cons 8 rfl ?_ ?_
   ·intro T w' b j a;have k:T.getD 18 undef=_:=a 6 18;exact zs (by go_simp) rfl
   refine zc.cons 9 rfl ?_ ?_
   ·intro T w' b j a;have k:T.getD 19 undef=_:=a 7 19;obtain ⟨C,c1,c2,c3,c4,c5⟩:=B.o w' b;rw [u] at c4;exact zs (by go_simp) rfl
   refine zc.cons 10 rfl ?_ ?_
   ·intro T w' b j a;have k:T.getD 1 undef=zI i:=j 1;exact zs (by go_simp) rfl
   refine zc.cons 11 rfl ?_ ?_
   ·intro T w' b j a;have k:T.getD 20 undef=_:=a 8 20;have M:T.getD 21 undef=_:=a 9 21;exact zs (by go_simp) rfl
   refine zc.cons 12 rfl ?_ ?_
   ·intro T w' b j a;have k:T.getD 22 undef=_:=a 10 22;exact zs (by go_simp) rfl
   refine zc.cons 13 rfl ?_ ?_
   ·intro T w' b j a;have k:T.getD 23 undef=_:=a 11 23;have ab:=(J.o w' b).1;exact zs (by go_simp) rfl
   refine zc.cons 14 rfl ?_ ?_
   ·intro T w' b j a;have k:T.getD 3 undef=.pointer (zO w.heap.size 0):=j 3;exact zs (by go_simp) rfl
   refine zc.cons 15 rfl ?_ ?_
   ·intro T w' b j a;have k:T.getD 25 undef=_:=a 13 25;exact zs (by go_simp) rfl
   refine zc.cons 16 rfl ?_ ?_
   ·intro T w' b j a;have k:T.getD 26 undef=_:=a 14 26;obtain ⟨C,c1,c2,c3,c4,c5⟩:=B.o w' b;rw [u] at c4;exact zs (by go_simp) rfl
   refine zc.cons 17 rfl ?_ ?_
   ·intro T w' b j a;have k:T.getD 1 undef=zI i:=j 1;exact zs (by go_simp) rfl
   refine zc.cons 18 rfl ?_ ?_
   ·intro T w' b j a;have k:T.getD 27 undef=_:=a 15 27;have M:T.getD 28 undef=_:=a 16 28;exact zs (by go_simp) rfl
   refine zc.cons 19 rfl ?_ ?_
   ·intro T w' b j a;have k:T.getD 29 undef=_:=a 17 29;exact zs (by go_simp) rfl
   refine zc.cons 20 rfl ?_ ?_
   ·intro T w' b j a;have k:T.getD 30 undef=_:=a 18 30;have ad:=(J.o w' b).2;exact zs (by go_simp) rfl
   refine zc.cons 21 rfl ?_ ?_
   ·intro T w' b j a;have k:T.getD 13 undef=_:=a 1 13;have M:T.getD 14 undef=_:=a 2 14;have ae:T.getD 17 undef=_:=a 5 17;have af:T.getD 24 undef=_:=a 12 24;have ag:T.getD 31 undef=_:=a 19 31;refine Or.inr ⟨184,#[.slice l n m,zI fm,zI r.un,zI (zp r.ps i),zI (rN r.ps i)],by go_simp,?_⟩;refine (L.o w' (za A.o b)).mono ?_;rintro e ak ⟨rfl,Y⟩;exact ⟨_,rfl,rfl,Y⟩
   refine zc.cons 22 rfl ?_ ?_
   ·intro T w' b j a;have k:T.getD 32 undef=_:=a 20 32;exact zs (by go_simp) rfl
   refine zc.cons 23 rfl ?_ ?_
   ·intro T w' b j a;have k:T.getD 11 undef=_:=a 21 11;exact zs (by go_simp) rfl
   refine zc.cons 24 rfl ?_ ?_
   ·intro T w' b j a;have k:T.getD 11 undef=_:=a 21 11;exact zs (by go_simp) rfl
   refine zc.cons 25 rfl ?_ ?_
   ·intro T w' b j a;have k:T.getD 11 undef=_:=a 21 11;exact zs (by go_simp) rfl
   refine zc.cons 26 rfl ?_ ?_
   ·intro T w' b j a;have k:T.getD 33 undef=_:=a 22 33;exact zs (by go_simp) rfl
   refine zc.cons 27 rfl ?_ ?_
   ·intro T w' b j a;have k:T.getD 34 undef=_:=a 23 34;exact zs (by go_simp) rfl
   refine zc.cons 28 rfl ?_ ?_
   ·intro T w' b j a;have k:T.getD 35 undef=_:=a 24 35;exact zs (by go_simp) rfl
   exact trivial
  intro T w' b Z j a;have S:T.getD 8 undef=zI x:=a 25 8;have U:T.getD 9 undef=.bool y:=a 26 9;rw [yb (tt 8 [false,false,false,false,false,false,false,false,false,false,false,false,false,false,false,false,false,false,false,false,false,false,false,false,false,false,false,false] 2) (by kernel_rfl) Z @j];obtain ⟨us,F⟩:∃ us:Nat->Value,(fun d=>T.getD d undef)=us:=⟨_,rfl⟩;rw [F];have V:us 8=zI x:=by rw [<-F];exact S
  have W:us 9=.bool y:=by rw [<-F];exact U
  apply_assumption;simp only [xj,tt,List.replicate,List.cons_append,List.nil_append];go_meet;exact ⟨V,W,za A.o b⟩
 case rest =>
  obtain ⟨rfl,rfl,R⟩:=hcut;go_wp2;go_ret2
  exact ⟨rfl,R⟩
def yj (r:Rq) (g:zd) (fm:Int) (k:Nat):Int×Bool×Int:=yp g fm r.un (zp r.ps k) (rN r.ps k)
theorem Wi (r:Rq) (g:zd) (fm:Int) (k:Nat):0<=(yj r g fm k).1/\(yj r g fm k).1<=48:=by
 unfold yj yp
 split
 ·split
  ·rename_i h1 h2;rw [Bool.and_eq_true] at h2;have a:=h2.1;simp [Xw] at a
   split
   ·rename_i t ht;have:=yz ht;simp only;omega
   simp
  simp
 simp
def yC (r:Rq) (f:zd):Nat->Option (zd×zd)
 | 0=>some (f,[])
 | k+1=>match yC r f k with
  | none=>none
  | some (g,bs)=>if (yj r g r.fr k).2.1=true then some ((yV g (yj r g r.fr k).1 ((yj r g r.fr k).1+zp r.ps k) (-rN r.ps k)).1,bs++[((k:Int),(yj r g r.fr k).1)]) else none
def ye (r:Rq) (f:zd):Nat->Option (Int×zd)
 | 0=>some (r.fr,[])
 | k+1=>match ye r f k with
  | none=>none
  | some (fm,bs)=>if (yj r f fm k).2.1=true then some ((yj r f fm k).1+zp r.ps k,bs++[((k:Int),(yj r f fm k).1)]) else none
def yr (r:Rq) (f:zd) (t:Int):Nat->Option (Int×zd)
 | 0=>some (t,[])
 | k+1=>match yr r f t k with
  | none=>none
  | some (fm,bs)=>if (yj r f fm k).2.1=true/\(yj r f fm k).1=fm then some (fm+zp r.ps k,bs++[((k:Int),fm)]) else none
def yB {α:Type} (o:Option (α×zd)):zd×Bool:=match o with
 | some x=>(x.2,true)
 | none=>([],false)
def P5 (r:Rq) (f:zd):zd×Bool:=match zw (fun k=>(yj r f r.fr k).2.1) 0 r.ps.length with
 | some k=>([((k:Int),(yj r f r.fr k).1)],true)
 | none=>([],false)
def Yu (r:Rq) (f:zd):zd×Bool:=match zw (fun t=>(yr r f t r.ps.length).isSome) r.fr.toNat (r.un.toNat-r.fr.toNat) with
 | some t=>yB (yr r f t r.ps.length)
 | none=>([],false)
def Zf (r:Rq) (f:zd):zd×Bool :=
 if r.kind=1 then yB (yC r f r.ps.length) else if r.kind=2 then P5 r f else if r.kind=3 then yB (ye r f r.ps.length) else Yu r f
theorem XC {a:Type} {g:Nat->Option a} (hg:∀ k,g k=none->g (k+1)=none):∀ {k n:Nat},g k=none->k<=n->g n=none
 | k,0,h,hn=>by
  obtain rfl:k=0:=by omega
  exact h
 | k,n+1,h,hn=>by
  by_cases e:k=n+1
  ·subst e;exact h
  exact hg n (XC hg h (by omega))
theorem Q6 {r:Rq} {f:zd} (k:Nat) (h:yC r f k=none):yC r f (k+1)=none:=by rw [yC,h]
theorem RH {r:Rq} {f:zd} (k:Nat) (h:ye r f k=none):ye r f (k+1)=none:=by rw [ye,h]
theorem NU {r:Rq} {f:zd} {t:Int} (k:Nat) (h:yr r f t k=none):yr r f t (k+1)=none:=by rw [yr,h]
theorem Rb {r:Rq} {f:zd}:∀ {k:Nat} {g bs:zd},yC r f k=some (g,bs)->bs.length=k
 | 0,g,bs,h=>by simp [yC] at h;rw [h.2];rfl
 | k+1,g,bs,h=>by
  rw [yC] at h;cases a:yC r f k with
  | none=>rw [a] at h;cases h
  | some x =>
   rw [a] at h;simp only at h
   split at h
   ·injection h with h;injection h with c b;rw [<-b];simp [Rb (k:=k) (g:=x.1) (bs:=x.2) a]
   cases h
theorem Tm {r:Rq} {f:zd}:∀ {k:Nat} {fm:Int} {bs:zd},ye r f k=some (fm,bs)->bs.length=k
 | 0,g,bs,h=>by simp [ye] at h;rw [h.2];rfl
 | k+1,g,bs,h=>by
  rw [ye] at h;cases a:ye r f k with
  | none=>rw [a] at h;cases h
  | some x =>
   rw [a] at h;simp only at h
   split at h
   ·injection h with h;injection h with c b;rw [<-b];simp [Tm (k:=k) (fm:=x.1) (bs:=x.2) a]
   cases h
theorem Oi {r:Rq} {f:zd} {t:Int}:∀ {k:Nat} {fm:Int} {bs:zd},yr r f t k=some (fm,bs)->bs.length=k
 | 0,g,bs,h=>by simp [yr] at h;rw [h.2];rfl
 | k+1,g,bs,h=>by
  rw [yr] at h;cases a:yr r f t k with
  | none=>rw [a] at h;cases h
  | some x =>
   rw [a] at h;simp only at h
   split at h
   ·injection h with h;injection h with c b;rw [<-b];simp [Oi (k:=k) (fm:=x.1) (bs:=x.2) a]
   cases h
def zP (w:World) (B:Nat) (v:Value) (l:zd):Prop:=w.ownsRow B 62 2 v l.length (cellsOf l)
def wk (B:Nat) (w:World) (a:Option Addr) (n cap:Nat) (l:zd):Prop:=RunsIn w a n cap l/\∀ b off,a=zO b off->B<=b/\∃ cs fr,w.heap[b]?=some (.cells cs 62 fr)
theorem wk.later {B:Nat} {w w':World} {a:Option Addr} {n c:Nat} {l:zd} (h:wk B w a n c l) (f:Below w.heap.size w w'):wk B w' a n c l:=⟨h.1.later f,fun b i e=>by
 obtain ⟨g,cs,fr,d⟩:=h.2 b i e;exact ⟨g,cs,fr,(f.block b (Array.getElem?_eq_some_iff.1 d).1).trans d⟩⟩
theorem wk.mono {B c:Nat} {w:World} {a:Option Addr} {n d:Nat} {l:zd} (h:wk B w a n d l) (g:c<=B):wk c w a n d l:=⟨h.1,fun b f e=>⟨Nat.le_trans g (h.2 b f e).1,(h.2 b f e).2⟩⟩
theorem Tr (B:Nat) (w:World):wk B w none 0 0 []:=⟨ZJ w,fun _ _ e=>by cases e⟩
theorem zP.parts {w:World} {B:Nat} {v:Value} {l:zd} (h:zP w B v l) (t:l.length<=48) :
 ∃ a c,v=.slice a l.length c/\wk B w a l.length c l:=by
 have n:=h;rcases n.2 with ⟨d,hn⟩ | ⟨g,c,f,d,hg,j,q,o,u,x⟩
 ·have p:l=[]:=List.eq_nil_of_length_eq_zero hn;subst p;exact ⟨none,0,by simpa using d,⟨rfl,Nat.le_refl _,by simp,by simp,fun h=>by simp at h,fun h=>by simp at h⟩,fun _ _ e=>by cases e⟩
 ·subst d;refine ⟨zO g 0,c,rfl,⟨rfl,q,by omega,o,fun _=>⟨g,0,rfl,fun i k=>⟨?_,?_⟩⟩,fun _ b r e=>by cases e;exact Or.inr ⟨f,_,j⟩⟩,fun b r e=>by
   injection e with e;injection e with m s;subst m;exact ⟨hg,f,(0,0),j⟩⟩
  ·rw [Nat.zero_add];exact (World.ownsRow.cellAt h (i*2) (by omega)).trans (xr l i k)
  rw [Nat.zero_add];exact (World.ownsRow.cellAt h (i*2+1) (by omega)).trans (xJ l i k)
theorem Xi {B:Nat} {w b a:World} {v c:Value} {o:Obj} {l:zd} {x y:Int} (e:Below B w b) (d:B<=b.heap.size) (h:zP b B v l)
 (g:a.ownsRow B 62 2 c (l.length+1) (cellsOf l++[zI x,zI y])) (hg:(b.alloc o).grownBy a v.ownBlock) :
 zP a B c (l++[(x,y)])/\Below B w a/\B<=a.heap.size:=by
 refine ⟨by unfold zP;rw [YD];simpa using g,(e.alloc d o).grown hg (by simp;omega) (fun k f=>(h.lt k f).1),?_⟩;have:=hg.size;simp at this;omega
theorem zP.keep {w w':World} {B:Nat} {v:Value} {l:zd} (h:zP w B v l) (e:Below w.heap.size w w'):zP w' B v l:=by
 refine ⟨h.1,?_⟩;rcases h.2 with d | ⟨g,b,c,i,hg,a,f⟩
 ·exact Or.inl d
 exact Or.inr ⟨g,b,c,i,hg,(e.block g (Array.getElem?_eq_some_iff.1 a).1).trans a,f⟩
theorem Tryz.infoBite:(Tryz.prog.info? 62).map (fun i=>(i.zero,i.size,i.bytes))=some (some (.agg #[zI 0,zI 0]),2,16):=by kernel_rfl
def ZB (w w':World) (e:Ending) (x:zd×Bool):Prop:=∃ a n cap,e=.returned (.tuple #[.slice a n cap,.bool x.2])/\wk w.heap.size w' a n cap x.1/\Below w.heap.size w w'
theorem ws {w w':World} (a:Below w.heap.size w w'):ZB w w' (.returned (.tuple #[zN,.bool false])) ([],false):=⟨none,0,0,rfl,Tr _ _,a⟩
theorem SS (w:World) (p q:Option Addr) (n x y:Nat) (l:zd) (f:RunsIn w p n x l) (A:RunsIn w q n y l) :
 zC 27 #[.slice p n x,.slice q n y] w fun e w'=>e=.returned (.bool true)/\∃ d,w'=w.drewN d:=by
 have L:=f.le;have G:=f.bound;have H:=f.capb;have C:Zh (0<n->∃ b1 t b u,p=zO b1 t/\q=zO b u/\(∀ i,i<n->w.cell? (zA b1 (t+i*2))=some (zI (zp l i))/\w.cell? (zA b1 (t+i*2+1))=some (zI (rN l i)))/\(∀ i,i<n->w.cell? (zA b (u+i*2))=some (zI (zp l i))/\w.cell? (zA b (u+i*2+1))=some (zI (rN l i)))):=by
  intro h;obtain ⟨b1,k,z,c1⟩:=f.cells h;obtain ⟨b,m,B,c2⟩:=A.cells h;exact ⟨b1,k,b,m,z,B,c1,c2⟩
 clear f A;have M:((n:Int) != n)=false:=by simp
 by_cases h:0<n
 ·obtain ⟨b1,k,b,m,rfl,rfl,c1,c2⟩:=C.o h;go_enter Tryz.func27,Tryz.ntmps27;go_wp2;go_loopw [5] (fun s wr=>∃ j:Nat,s=zI j/\j<=n/\∃ d,wr=w.drewN d) (fun s _=>n-(intOf s).toNat)
  case atStart=>exact ⟨0,rfl,by omega,0,rfl⟩
  obtain ⟨j,rfl,J,r⟩:=hrel;have v:Zh (∃ d,wr=w.drewN d):=r;have c:∀ a,wr.cell? a=w.cell? a:=by obtain ⟨d,rfl⟩:=r;exact fun a=>rfl
  clear r;by_cases g:j<n
  ·have I:(j:Int)<n:=(by omega);have D:wr.cell? (zA b1 (k+j*2))=some (zI (zp l j)):=(c _).trans (c1 j g).1;have E:wr.cell? (zA b1 (k+j*2+1))=some (zI (rN l j)):=(c _).trans (c1 j g).2;have F:wr.cell? (zA b (m+j*2))=some (zI (zp l j)):=(c _).trans (c2 j g).1;have z:wr.cell? (zA b (m+j*2+1))=some (zI (rN l j)):=(c _).trans (c2 j g).2;clear c c1 c2;go_wp2;go_quiet (fail)
   go_wp2;go_roundw
   case rel=>exact ⟨j+1,by go_num,by omega,xM v _⟩
   case measure=>simp [intOf];omega
  obtain rfl:j=n:=by omega
  clear c c1 c2;go_wp2;go_ret;exact ⟨rfl,v.o⟩
 ·obtain rfl:n=0:=by omega
  go_enter Tryz.func27,Tryz.ntmps27;go_wp2;go_loop [5] (fun s=>s=zI 0) (fun _=>0)
  case atStart=>rfl
  subst hrel;go_wp2;go_ret;exact ⟨rfl,0,rfl⟩
def RC (r:Rq) (b:zd) (i:Nat):Int:=rN r.ps (zp b i).toNat
def xz (f:zd) (r:Rq) (b:zd):Nat->Option zd
 | 0=>some f
 | k+1=>match xz f r b k with
  | none=>none
  | some g=>if (yV g (rN b k) (rN b k+lenOf r b k) (-RC r b k)).2=0 then
   (if (xN (yV g (rN b k) (rN b k+lenOf r b k) (-RC r b k)).1 (rN b k) (rN b k+lenOf r b k)).2=0/\0<=(xN (yV g (rN b k) (rN b k+lenOf r b k) (-RC r b k)).1 (rN b k) (rN b k+lenOf r b k)).1 then some (yV g (rN b k) (rN b k+lenOf r b k) (-RC r b k)).1 else none) else none
def Xl (f:zd) (r:Rq) (b:zd):Bool:=(xz f r b b.length).isSome
theorem LO {f:zd} (h:xe f=true):zW f:=zX.1 h
def OR (r:Rq) (g:zd) (k s:Nat):Prop:=(s:Int)+zp r.ps k<=r.un/\∀ u:Nat,s<=u->(u:Int)<s+zp r.ps k->rN r.ps k<=zn g u
theorem UW {r:Rq} (c:z8 false r=0) {g:zd} {k s:Nat} (f:k<r.ps.length):UV g r.un.toNat (zp r.ps k).toNat (rN r.ps k) s=true↔OR r g k s:=by
 have h:=yh c f;have i:=xA c;rw [Jt (by omega)]
 constructor
 ·rintro ⟨e,b⟩;exact ⟨by omega,fun u a d=>b u a (by omega)⟩
 rintro ⟨e,b⟩;exact ⟨by omega,fun u a d=>b u a (by omega)⟩
theorem YX {r:Rq} (d:z8 false r=0) {g:zd} {fm:Int} {k:Nat} (e:k<r.ps.length) (h:(yj r g fm k).2.1=true) :
 zW g/\∃ F t:Nat,fm=F/\(yj r g fm k).1=t/\F<=t/\OR r g k t/\∀ s,F<=s->s<t->¬OR r g k s:=by
 unfold yj yp at h ⊢;by_cases b:xe g=true
 ·rw [if_pos b] at h ⊢;by_cases a:(Xw fm r.un&&yW (zp r.ps k) 1 24)=true
  ·rw [if_pos a] at h ⊢;rw [Bool.and_eq_true] at a;have l:=a.1;simp [Xw] at l;cases c:WR g fm.toNat r.un.toNat (zp r.ps k).toNat (rN r.ps k) with
   | none=>rw [c] at h;cases h
   | some t =>
    obtain ⟨f,p,i,j⟩:=yz c;refine ⟨LO b,fm.toNat,t,by omega,rfl,f,(UW d e).1 i,fun s n o m=>?_⟩;have:=j s n o;rw [(UW d e).2 m] at this;cases this
  rw [if_neg a] at h;cases h
 ·rw [if_neg b] at h;cases h
theorem Gf {r:Rq} (a:z8 false r=0) {g:zd} {fm:Int} {k s:Nat} (d:k<r.ps.length) (hg:zW g) (n:0<=fm) (o:fm<=s) (b:OR r g k s):(yj r g fm k).2.1=true/\(yj r g fm k).1<=s:=by
 have q:=yh a d;have u:=xA a;have i:(Xw fm r.un&&yW (zp r.ps k) 1 24)=true:=by
  rw [Bool.and_eq_true];have:=b.1
  constructor
  ·simp [Xw];omega
  simp [yW];omega
 unfold yj yp;rw [if_pos (zX.2 hg),if_pos i];have f:=(UW a d).2 b;have p:s<r.un.toNat:=by have:=b.1;omega
 cases c:WR g fm.toNat r.un.toNat (zp r.ps k).toNat (rN r.ps k) with
 | none =>
  have:=Yy c s (by omega) (by omega);rw [f] at this;cases this
 | some t =>
  obtain ⟨j,l,m,h⟩:=yz c;refine ⟨rfl,?_⟩;show (t:Int)<=s;by_cases e:t<=s
  ·omega
  have:=h s (by omega) (by omega);rw [f] at this;cases this
theorem Uq {g:zd} (hg:zW g) {t L M:Int} (h:0<=t) (j:1<=L) (n:t+L<=48) (k:1<=M/\M<=50) (d:∀ u:Nat,t<=u->(u:Int)<t+L->M<=zn g u) :
 (yV g t (t+L) (-M)).2=0/\zW (yV g t (t+L) (-M)).1/\∀ u:Nat,u<48->zn (yV g t (t+L) (-M)).1 u=if t<=u/\(u:Int)<t+L then zn g u-M else zn g u:=by
 have e:(Xw t (t+L)&&bdd (-M))=true:=by
  rw [Bool.and_eq_true]
  constructor
  ·simp [Xw];omega
  rw [ZA];omega
 have a:wB (wJ g t (t+L) (-M)) 48=true:=by
  rw [ZL];intro i m;have b:=ZA.1 (Tv hg (i:Int) (by omega));rw [ZA];unfold wJ
  split
  ·rename_i hh;have:=d i hh.1 hh.2;have l:-1048576<=zn g i/\zn g i<=1048576:=b;omega
  exact b
 have c:yV g t (t+L) (-M)=(zD (wJ g t (t+L) (-M)) 48,0):=by
  rw [yV,if_pos (zX.2 hg),if_pos e,Yc,if_pos a]
 rw [c];refine ⟨rfl,ZP _ 48 (by omega) (by omega) a,fun u f=>?_⟩;show zn (zD (wJ g t (t+L) (-M)) 48) u=_;rw [show zn (zD (wJ g t (t+L) (-M)) 48) u=wJ g t (t+L) (-M) u from Yj _ a u f];unfold wJ
 split <;> omega
theorem Ry {g:zd} (hg:zW g) {t L:Int} (i:0<=t) (l:1<=L) (m:t+L<=48):(xN g t (t+L)).2=0/\(0<=(xN g t (t+L)).1↔∀ u:Nat,t<=u->(u:Int)<t+L->0<=zn g u):=by
 have d:Xw t (t+L)=true:=by simp [Xw];omega
 have c:xN g t (t+L)=(YT (zn g) t.toNat ((t+L).toNat-t.toNat),0):=by rw [xN,if_pos (zX.2 hg),if_pos d]
 rw [c];obtain ⟨a,s,j,k,b⟩:=Y9 (zn g) t.toNat ((t+L).toNat-t.toNat) (by omega);refine ⟨rfl,?_⟩;show 0<=YT (zn g) t.toNat ((t+L).toNat-t.toNat)↔_
 constructor
 ·intro h u e f;have:=a u (by omega) (by omega);omega
 intro h;rw [b];exact h s (by omega) (by omega)
structure BiteAt (r:Rq) (b:zd) (k:Nat):Prop where
 t0:0<=rN b k
 l1:1<=lenOf r b k
 l24:lenOf r b k<=24
 u48:rN b k+lenOf r b k<=48
 n1:1<=RC r b k
 n50:RC r b k<=50
theorem Sp {r:Rq} {b:zd} {k:Nat} (a:z8 false r=0) (h:xt r b k=true) (e:xF r b k=true):BiteAt r b k:=by
 have f:=wR e;have g:=Zi h;have c:=Xm a h;have d:=yh a (k:=(zp b k).toNat) (by omega);have i:=xA a;exact ⟨by omega,c.1,c.2,by omega,d.2.2.1,d.2.2.2⟩
theorem VB {f g:zd} {r:Rq} {b:zd} {k:Nat} (h:xz f r b k=some g) (hg:zW g) (a:BiteAt r b k) (e:∀ u:Nat,rN b k<=u->(u:Int)<rN b k+lenOf r b k->RC r b k<=zn g u) :
 xz f r b (k+1)=some (yV g (rN b k) (rN b k+lenOf r b k) (-RC r b k)).1:=by
 obtain ⟨b1,i,j⟩:=Uq hg a.t0 a.l1 a.u48 ⟨a.n1,a.n50⟩ e;obtain ⟨m,n⟩:=Ry i a.t0 a.l1 a.u48;have l:=n.2 fun u c d=>by
  have o:=a.u48;rw [j u (by omega),if_pos ⟨c,d⟩];have:=e u c d;omega
 rw [xz,h];simp only;rw [if_pos b1,if_pos ⟨m,l⟩]
theorem Pd {f:zd} {r:Rq} {b:zd} (s:zW f):∀ {n:Nat} {g:zd},xz f r b n=some g->(∀ k,k<n->BiteAt r b k)->zW g/\(∀ u:Nat,u<48->zn g u<=zn f u)/\∀ k,k<n->∀ u:Nat,rN b k<=u->(u:Int)<rN b k+lenOf r b k->RC r b k<=zn f u
 | 0,g,h,_=>by
  simp [xz] at h;subst h;exact ⟨s,fun u _=>Int.le_refl _,fun k t=>by omega⟩
 | n+1,g,h,hb=>by
  rw [xz] at h;cases hn:xz f r b n with
  | none=>rw [hn] at h;cases h
  | some g0 =>
   rw [hn] at h;simp only at h;obtain ⟨x,v,y⟩:=Pd s hn (fun k t=>hb k (by omega));have c:=hb n (by omega);have A:=c.u48;have z:=c.n1;by_cases a:(yV g0 (rN b n) (rN b n+lenOf r b n) (-RC r b n)).2=0
   ·rw [if_pos a] at h;by_cases l:(xN (yV g0 (rN b n) (rN b n+lenOf r b n) (-RC r b n)).1 (rN b n) (rN b n+lenOf r b n)).2=0/\0<=(xN (yV g0 (rN b n) (rN b n+lenOf r b n) (-RC r b n)).1 (rN b n) (rN b n+lenOf r b n)).1
    ·rw [if_pos l] at h;injection h with h;have j:zW g/\∀ u:Nat,u<48->zn g u=wJ g0 (rN b n) (rN b n+lenOf r b n) (-RC r b n) u:=by
      rw [<-h];unfold yV at a ⊢;rw [if_pos (zX.2 x)] at a ⊢;by_cases q:(Xw (rN b n) (rN b n+lenOf r b n)&&bdd (-RC r b n))=true
      ·rw [if_pos q] at a ⊢;unfold Yc at a ⊢;by_cases d:wB (wJ g0 (rN b n) (rN b n+lenOf r b n) (-RC r b n)) 48=true
       ·rw [if_pos d];exact ⟨ZP _ 48 (by omega) (by omega) d,fun u i=>Yj _ d u i⟩
       rw [if_neg d] at a;cases a
      rw [if_neg q] at a;cases a
     have w:=(Ry j.1 c.t0 c.l1 c.u48).2.1 (by rw [<-h];exact l.2);refine ⟨j.1,fun u i=>?_,fun k t u m o=>?_⟩
     ·rw [j.2 u i];have:=v u i;unfold wJ
      split <;> omega
     by_cases e:k=n
     ·subst e;have p:=w u m o;rw [j.2 u (by omega)] at p;unfold wJ at p;rw [if_pos ⟨m,o⟩] at p;have:=v u (by omega);omega
     exact y k (by omega) u m o
    rw [if_neg l] at h;cases h
   rw [if_neg a] at h;cases h
theorem Rk {l:zd} {x:Int×Int} {k:Nat} (h:k<l.length):zp (l++[x]) k=zp l k/\rN (l++[x]) k=rN l k:=⟨Wp l x k h,RY l x k h⟩
theorem LL {r:Rq} {f:zd}:∀ {n:Nat} {g bs:zd},yC r f n=some (g,bs)->∃ a:Nat->zd,a 0=f/\a n=g/\bs.length=n /\
 ∀ k,k<n->zp bs k=k/\(yj r (a k) r.fr k).2.1=true/\rN bs k=(yj r (a k) r.fr k).1/\a (k+1)=(yV (a k) (rN bs k) (rN bs k+zp r.ps k) (-rN r.ps k)).1
 | 0,g,bs,h=>by
  simp [yC] at h;exact ⟨fun _=>f,rfl,h.1,by rw [h.2];rfl,fun k t=>by omega⟩
 | n+1,g,bs,h=>by
  rw [yC] at h;cases hn:yC r f n with
  | none=>rw [hn] at h;cases h
  | some X =>
   obtain ⟨b,c⟩:=X;rw [hn] at h;simp only at h;by_cases e:(yj r b r.fr n).2.1=true
   ·rw [if_pos e] at h;injection h with h;injection h with q s;obtain ⟨a,u,v,o,w⟩:=LL hn;subst s;have m:zp (c++[((n:Int),(yj r b r.fr n).1)]) n=n/\rN (c++[((n:Int),(yj r b r.fr n).1)]) n=(yj r b r.fr n).1:=by
     have d:=Wq c ((n:Int),(yj r b r.fr n).1);have i:=Tq c ((n:Int),(yj r b r.fr n).1);rw [o] at d i;exact ⟨d,i⟩
    refine ⟨fun k=>if k<=n then a k else g,by simp [u],if_neg (by omega),by simp [o],fun k t=>?_⟩;by_cases p:k=n
    ·subst p;rw [m.1,m.2];simp only [Nat.le_refl,if_true,if_neg (show ¬k+1<=k by omega),v];exact ⟨trivial,e,trivial,q.symm⟩
    have j:=Rk (l:=c) (x:=((n:Int),(yj r b r.fr n).1)) (k:=k) (by omega);rw [j.1,j.2];simp only [if_pos (show k<=n by omega),if_pos (show k+1<=n by omega)];exact w k (by omega)
   rw [if_neg e] at h;cases h
theorem NF {r:Rq} {f:zd}:∀ {n:Nat} {fm:Int} {bs:zd},ye r f n=some (fm,bs)->∃ T:Nat->Int,T 0=r.fr/\T n=fm/\bs.length=n /\
 ∀ k,k<n->zp bs k=k/\(yj r f (T k) k).2.1=true/\rN bs k=(yj r f (T k) k).1/\T (k+1)=rN bs k+zp r.ps k
 | 0,fm,bs,h=>by
  simp [ye] at h;exact ⟨fun _=>r.fr,rfl,h.1,by rw [h.2];rfl,fun k q=>by omega⟩
 | n+1,fm,bs,h=>by
  rw [ye] at h;cases hn:ye r f n with
  | none=>rw [hn] at h;cases h
  | some X =>
   obtain ⟨a,b⟩:=X;rw [hn] at h;simp only at h;by_cases e:(yj r f a n).2.1=true
   ·rw [if_pos e] at h;injection h with h;injection h with o p;obtain ⟨T,s,t,j,u⟩:=NF hn;subst p;have i:zp (b++[((n:Int),(yj r f a n).1)]) n=n/\rN (b++[((n:Int),(yj r f a n).1)]) n=(yj r f a n).1:=by
     have c:=Wq b ((n:Int),(yj r f a n).1);have d:=Tq b ((n:Int),(yj r f a n).1);rw [j] at c d;exact ⟨c,d⟩
    refine ⟨fun k=>if k<=n then T k else fm,by simp [s],if_neg (by omega),by simp [j],fun k q=>?_⟩;by_cases m:k=n
    ·subst m;rw [i.1,i.2];simp only [Nat.le_refl,if_true,if_neg (show ¬k+1<=k by omega),t];exact ⟨trivial,e,trivial,o.symm⟩
    have g:=Rk (l:=b) (x:=((n:Int),(yj r f a n).1)) (k:=k) (by omega);rw [g.1,g.2];simp only [if_pos (show k<=n by omega),if_pos (show k+1<=n by omega)];exact u k (by omega)
   rw [if_neg e] at h;cases h
theorem I2 {r:Rq} {f:zd} {t:Int}:∀ {n:Nat} {fm:Int} {bs:zd},yr r f t n=some (fm,bs)->∃ T:Nat->Int,T 0=t/\T n=fm/\bs.length=n /\
 ∀ k,k<n->zp bs k=k/\(yj r f (T k) k).2.1=true/\rN bs k=T k/\(yj r f (T k) k).1=T k/\T (k+1)=rN bs k+zp r.ps k
 | 0,fm,bs,h=>by
  simp [yr] at h;exact ⟨fun _=>t,rfl,h.1,by rw [h.2];rfl,fun k q=>by omega⟩
 | n+1,fm,bs,h=>by
  rw [yr] at h;cases hn:yr r f t n with
  | none=>rw [hn] at h;cases h
  | some X =>
   obtain ⟨a,b⟩:=X;rw [hn] at h;simp only at h;by_cases e:(yj r f a n).2.1=true/\(yj r f a n).1=a
   ·rw [if_pos e] at h;injection h with h;injection h with o p;obtain ⟨T,s,u,j,v⟩:=I2 hn;subst p;have i:zp (b++[((n:Int),a)]) n=n/\rN (b++[((n:Int),a)]) n=a:=by
     have c:=Wq b ((n:Int),a);have d:=Tq b ((n:Int),a);rw [j] at c d;exact ⟨c,d⟩
    refine ⟨fun k=>if k<=n then T k else fm,by simp [s],if_neg (by omega),by simp [j],fun k q=>?_⟩;by_cases m:k=n
    ·subst m;rw [i.1,i.2];simp only [Nat.le_refl,if_true,if_neg (show ¬k+1<=k by omega),u];exact ⟨trivial,e.1,trivial,e.2,o.symm⟩
    have g:=Rk (l:=b) (x:=((n:Int),a)) (k:=k) (by omega);rw [g.1,g.2];simp only [if_pos (show k<=n by omega),if_pos (show k+1<=n by omega)];exact v k (by omega)
   rw [if_neg e] at h;cases h
theorem Yr {r:Rq} {b:zd} {k:Nat} (a:k<r.ps.length) (h:zp b k=k):xt r b k=true/\lenOf r b k=zp r.ps k/\RC r b k=rN r.ps k:=by
 refine ⟨?_,by rw [lenOf,h,Int.toNat_natCast],by rw [RC,h,Int.toNat_natCast]⟩;rw [xt,h];simp only [yW,decide_eq_true_eq];omega
theorem LT {r:Rq} (p:z8 false r=0) {f bs:zd} (x:zW f) (z:r.kind≠2) (A:bs.length=r.ps.length) (m:∀ k,k<bs.length->zp bs k=k) (q:∀ k,k<bs.length->r.fr<=rN bs k/\rN bs k+zp r.ps k<=r.un)
 (y:∀ k,k+1<bs.length->x9 r bs k (k+1)=true)
 (B:∀ k g,k<bs.length->xz f r bs k=some g->zW g->∀ u:Nat,rN bs k<=u->(u:Int)<rN bs k+zp r.ps k->rN r.ps k<=zn g u) :
 meets r bs=true/\Xl f r bs=true:=by
 have w:∀ k,k<bs.length->BiteAt r bs k:=fun k t=>by
  obtain ⟨d,c,e⟩:=Yr (r:=r) (b:=bs) (by omega) (m k t);refine Sp p d ?_;have:=q k t;rw [xF,c,decide_eq_true_eq];omega
 refine ⟨yk.2 ⟨p,by rw [xu,if_neg z,A],fun i l=>?_⟩,?_⟩
 ·obtain ⟨d,c,e⟩:=Yr (r:=r) (b:=bs) (by omega) (m i l);have v:xF r bs i=true:=by
   have:=q i l;rw [xF,c,decide_eq_true_eq];omega
  rw [xD,d,v];cases i with
  | zero=>rfl
  | succ j=>rw [Nat.add_sub_cancel,y j l];simp
 ·have:∀ n,n<=bs.length->∃ g,xz f r bs n=some g/\zW g:=by
   intro n
   induction n with
   | zero=>intro _;exact ⟨f,rfl,x⟩
   | succ n ih =>
    intro hn;obtain ⟨g,s,h⟩:=ih (by omega);obtain ⟨d,c,e⟩:=Yr (r:=r) (b:=bs) (by omega) (m n (by omega));have o:=B n g (by omega) s h;rw [<-c,<-e] at o;have a:=w n (by omega);exact ⟨_,VB s h a o,(Uq h a.t0 a.l1 a.u48 ⟨a.n1,a.n50⟩ o).2.1⟩
  obtain ⟨g,hg,_⟩:=this bs.length (Nat.le_refl _);rw [Xl,hg];rfl
theorem Nl {r:Rq} {b:zd} {k:Nat} (a:r.kind≠3) (c:r.kind≠4) (h:zp b k<zp b (k+1)):x9 r b k (k+1)=true:=by
 rw [x9,if_neg a,if_neg c,decide_eq_true h];rfl
theorem Kv {r:Rq} (e:z8 false r=0) (N:r.kind=1) {f g bs:zd} (x:zW f) (h:yC r f r.ps.length=some (g,bs)):meets r bs=true/\Xl f r bs=true:=by
 obtain ⟨n,E,L,G,c⟩:=LL h;have P:=xA e;have H:∀ k,k<=r.ps.length->xz f r bs k=some (n k)/\zW (n k):=by
  intro k
  induction k with
  | zero=>intro _;rw [E];exact ⟨rfl,x⟩
  | succ k ih =>
   intro O;obtain ⟨I,A⟩:=ih (by omega);obtain ⟨o,m,a,p⟩:=c k (by omega);obtain ⟨_,F,t,B,j,C,l,_⟩:=YX e (by omega) m;obtain ⟨D,q,w⟩:=Yr (r:=r) (b:=bs) (by omega) o;have d:BiteAt r bs k:=Sp e D (by
    have:=l.1;rw [xF,q,decide_eq_true_eq,a,j];omega)
   have z:∀ u:Nat,rN bs k<=u->(u:Int)<rN bs k+lenOf r bs k->RC r bs k<=zn (n k) u:=fun u v i=>by
    rw [w];rw [a,j] at v i;rw [q] at i;exact l.2 u (by omega) i
   have hn:=VB I A d z;have y:=(Uq A d.t0 d.l1 d.u48 ⟨d.n1,d.n50⟩ z).2.1;rw [q,w] at hn y;rw [p];exact ⟨hn,y⟩
 refine LT e x (by omega) G (fun k s=>(c k (by omega)).1) (fun k s=>?_) (fun k s=>?_) (fun k J s hg M=>?_)
 ·obtain ⟨o,m,a,p⟩:=c k (by omega);obtain ⟨_,F,t,B,j,C,l,_⟩:=YX e (by omega) m;have:=l.1;rw [a,j];omega
 ·refine Nl (by omega) (by omega) ?_;rw [(c k (by omega)).1,(c (k+1) (by omega)).1];omega
 rw [(H k (by omega)).1] at hg;injection hg with hg;subst hg;obtain ⟨o,m,a,p⟩:=c k (by omega);obtain ⟨_,F,t,B,j,C,l,_⟩:=YX e (by omega) m;intro u v i;rw [a,j] at v i;exact l.2 u (by omega) i
theorem Pg {r:Rq} (h:z8 false r=0) (M:r.kind≠2) {f bs:zd} (w:zW f) (N:bs.length=r.ps.length) (A:∀ k,k<bs.length->zp bs k=k) (x:∀ k,k<bs.length->r.fr<=rN bs k/\rN bs k+zp r.ps k<=r.un)
 (L:∀ k,k+1<bs.length->x9 r bs k (k+1)=true) (n:∀ k,k+1<bs.length->rN bs k+zp r.ps k<=rN bs (k+1))
 (B:∀ k,k<bs.length->∀ u:Nat,rN bs k<=u->(u:Int)<rN bs k+zp r.ps k->rN r.ps k<=zn f u):meets r bs=true/\Xl f r bs=true:=by
 have Y:=xA h;have o:∀ k,k<bs.length->xt r bs k=true/\lenOf r bs k=zp r.ps k/\RC r bs k=rN r.ps k:=fun k a=>Yr (by omega) (A k a);have c:∀ k,k<bs.length->BiteAt r bs k:=fun k a=>by
  obtain ⟨s,b,t⟩:=o k a;refine Sp h s ?_;have:=x k a;rw [xF,b,decide_eq_true_eq];omega
 have O:∀ k,k<=bs.length->∀ g,xz f r bs k=some g->zW g->∀ u:Nat,u<48->(∀ j,j<k->rN bs j+zp r.ps j<=u)->zn g u=zn f u:=by
  intro k
  induction k with
  | zero =>
   intro _ g hg _ u _ _;simp [xz] at hg;rw [hg]
  | succ k ih =>
   intro X g hg y u D z;rw [xz] at hg;cases hn:xz f r bs k with
   | none=>rw [hn] at hg;cases hg
   | some g0 =>
    have p:=Pd w hn (fun j i=>c j (by omega));have P:=ih (by omega) g0 hn p.1 u D (fun j i=>z j (by omega));have C:∀ v:Nat,rN bs k<=v->(v:Int)<rN bs k+lenOf r bs k->RC r bs k<=zn g0 v:=fun v V F=>by
     obtain ⟨s,b,t⟩:=o k (by omega);have E:=(c k (by omega)).u48;have:zn g0 v=zn f v:=ih (by omega) g0 hn p.1 v (by omega) (fun j i=>by
      have:∀ m,j<m->m<=k->rN bs j+zp r.ps j<=rN bs m:=by
       intro m
       induction m with
       | zero=>intro q;omega
       | succ m ihm =>
        intro S U;by_cases e:j=m
        ·subst e;exact n j (by omega)
        have G:=ihm (by omega) (by omega);have H:=n m (by omega);have I:=yh h (k:=m) (by omega);omega
      have:=this k i (Nat.le_refl _);omega)
     rw [this,t];rw [b] at F;exact B k (by omega) v V F
    have l:=VB hn p.1 (c k (by omega)) C;rw [xz,hn] at l;rw [hn] at hg;rw [hg] at l;injection l with l;have d:=c k (by omega);have J:=(Uq p.1 d.t0 d.l1 d.u48 ⟨d.n1,d.n50⟩ C).2.2 u D;rw [l,J,if_neg,P];have W:=z k (by omega);obtain ⟨s,b,t⟩:=o k (by omega);rw [b];omega
 refine LT h w M N A x L (fun k g a hg y u Q R=>?_);have E:=(c k a).u48;rw [(o k a).2.1] at E;rw [O k (by omega) g hg y u (by omega) (fun j i=>?_)]
 ·exact B k a u Q R
 ·have:∀ m,j<m->m<=k->rN bs j+zp r.ps j<=rN bs m:=by
   intro m
   induction m with
   | zero=>intro q;omega
   | succ m ihm =>
    intro S U;by_cases e:j=m
    ·subst e;exact n j (by omega)
    have G:=ihm (by omega) (by omega);have H:=n m (by omega);have I:=yh h (k:=m) (by omega);omega
  have:=this k i (Nat.le_refl _);omega
theorem Gs (w:World) (r:Rq) (h:zH w r) (p:z8 false r=0) (d:Option Addr) (j g:Nat) (f:zd) (O:RunsIn w d j g f) :
 zC 103 #[.agg #[zI r.queue,zI r.fr,zI r.un,zI r.kind,.slice r.pa r.pn r.pc,.slice d j g]] w fun e w'=>ZB w w' e (P5 r f):=by
 obtain ⟨q,D⟩:=qA (P5 r f);rw [D];have c:=zh ((Below.refl w.heap.size w).alloc (Nat.le_refl _) (.cells #[zI r.queue,zI r.fr,zI r.un,zI r.kind,.slice r.pa r.pn r.pc,.slice d j g] 117));have u:=zh (Xt w r d j g);have aj:=h.capb;have al:=h.le;have U:=zh h.len;have aa:0<r.pn:=by have:=of_decide_eq_true (zv.1 p).2.1;have:=h.len;omega
 have an:r.pn<=3:=by have:=of_decide_eq_true (zv.1 p).2.1;have:=h.len;omega
 obtain ⟨ad,ae,Q,R⟩:=h.cells aa;have af:=zh R;have ag:=zh fun k (B:k<r.pn)=>yh p (k:=k) (by have:=h.len;omega);have ah:=zh (xA p);have J:=zh fun S (a:zL w S) i (Z:i<r.pn) fm=>Xs S r (h.later a) d j g f (O.later a) i Z fm;clear R h O p;rw [Q] at u J c;rw [Q];obtain ⟨au,ak,ap,aq,ar⟩:=info_parts Tryz.infoBite;have H:Zh (∀ k,k<=r.pn->zw (fun k=>(yj r f r.fr k).2.1) 0 r.pn=zw (fun k=>(yj r f r.fr k).2.1) k (r.pn-k)->(k=r.pn->q=([],false))/\(k<r.pn->(yj r f r.fr k).2.1=true->q=([((k:Int),(yj r f r.fr k).1)],true))):=by
  intro k B Y;rw [<-D,P5,<-U.o,Y];refine ⟨fun e=>by subst e;rw [Nat.sub_self];rfl,fun E ab=>by rw [Zn (by omega) ab]⟩
 clear D;go_enter Tryz.func103,Tryz.ntmps103;go_wp2_with fail
 obtain ⟨W0,A⟩:=qB (w.alloc (.cells #[zI r.queue,zI r.fr,zI r.un,zI r.kind,.slice (some ⟨ad,ae,none⟩) r.pn r.pc,.slice d j g] 117));have ao:w.heap.size+1<=W0.heap.size:=by rw [A];simp
 rw [<-A] at u c;rw [<-A];clear A;have V:=u.o W0 (Below.refl _ _);obtain ⟨v,c1,c2,c3,c4,c5⟩:=V;go_wp2_with fail
 go_loopw [11] (fun F wr=>∃ k:Nat,F=zI k/\k<=r.pn/\zw (fun k=>(yj r f r.fr k).2.1) 0 r.pn=zw (fun k=>(yj r f r.fr k).2.1) k (r.pn-k)/\zL W0 wr) (fun F _=>r.pn-(intOf F).toNat)
 case atStart=>exact ⟨0,rfl,by omega,rfl,Below.refl _ _⟩
 case round =>
  clear v c1 c2 c3 c4 c5;obtain ⟨k,rfl,B,P,N⟩:=hrel;have C:=zh P;have l:=zh N;clear P N;obtain ⟨v,c1,c2,c3,c4,c5⟩:=u.o wr l.o;by_cases E:k<r.pn
  ·have am:(k:Int)<r.pn:=(by omega);have t:=J.o wr (za c.o l.o) k E r.fr;have M:=Wi r f r.fr k;have n:Zh (yj r f r.fr k=yp f r.fr r.un (zp r.ps k) (rN r.ps k)):=rfl;obtain ⟨X,L⟩:=qA (yp f r.fr r.un (zp r.ps k) (rN r.ps k));rw [L] at t n;rw [n.o] at M;clear L;obtain ⟨x,y,z⟩:=X;simp only at t M;have I:=zh t;clear t;cases y with
   | true =>
    have s:=zh ((H.o k B C.o).2 E (by rw [n.o]));rw [n.o] at s;go_wp2_with fail
    refine I.o.mono ?_;rintro e G ⟨rfl,a⟩;have m:=zh (za l.o a);clear a v c1 c2 c3 c4 c5;go_wp2;go_ret2
    rw [s.o];exact ⟨_,1,1,rfl,⟨Tn G [((k:Int),x)] _ 62 1 rfl rfl (by simp),fun b av e=>by injection e with e;injection e with W ai;subst W;exact ⟨by have:=(za c.o m.o).size;omega,_,(0,0),heap_alloc_new G _⟩⟩,(za c.o m.o).alloc (by have:=m.o.size;omega) _⟩
   | false =>
    go_wp2_with fail
    refine I.o.mono ?_;rintro e G ⟨rfl,a⟩;have m:=zh (za l.o a);clear a v c1 c2 c3 c4 c5;go_wp2;go_roundw
    case rel=>exact ⟨k+1,by go_num,by omega,by rw [C.o,wQ (by omega) (by rw [n.o])];rfl,m.o⟩
    case measure=>simp [intOf];omega
  obtain rfl:k=r.pn:=by omega
  have s:=zh ((H.o _ B C.o).1 rfl);go_wp2;go_ret2
  rw [s.o];exact ws (za c.o l.o)
theorem Np (w:World) (r:Rq) (h:zH w r) (q:z8 false r=0) (l:Option Addr) (n m:Nat) (f:zd) (an:RunsIn w l n m f) :
 zC 104 #[.agg #[zI r.queue,zI r.fr,zI r.un,zI r.kind,.slice r.pa r.pn r.pc,.slice l n m]] w fun e w'=>ZB w w' e (yB (ye r f r.ps.length)):=by
 obtain ⟨d,u⟩:=qA (yB (ye r f r.ps.length));rw [u];have a:=zh ((Below.refl w.heap.size w).alloc (Nat.le_refl _) (.cells #[zI r.queue,zI r.fr,zI r.un,zI r.kind,.slice r.pa r.pn r.pc,.slice l n m] 117));have t:=zh (Xt w r l n m);have aV:=h.capb;have aY:=h.le;have aC:=zh h.len;have au:0<r.pn:=by have:=of_decide_eq_true (zv.1 q).2.1;have:=h.len;omega
 have a1:r.pn<=3:=by have:=of_decide_eq_true (zv.1 q).2.1;have:=h.len;omega
 obtain ⟨aw,aP,aq,ar⟩:=h.cells au;have N:=zh ar;have aD:=zh fun k (aJ:k<r.pn)=>yh q (k:=k) (by have:=h.len;omega);have ae:=zh (xA q);have ag:=zh fun ay (c:zL w ay) i (aH:i<r.pn) fm=>Xs ay r (h.later c) l n m f (an.later c) i aH fm;clear ar h an q;rw [aq] at t ag a;rw [aq];obtain ⟨aO,aI,aL,aM,aN⟩:=info_parts Tryz.infoBite;rw [<-aC.o] at u;have Z:=zh u;clear u;go_enter Tryz.func104,Tryz.ntmps104;go_wp2_with fail
 obtain ⟨W0,B⟩:=qB (w.alloc (.cells #[zI r.queue,zI r.fr,zI r.un,zI r.kind,.slice (some ⟨aw,aP,none⟩) r.pn r.pc,.slice l n m] 117));have a3:w.heap.size+1<=W0.heap.size:=by rw [B];simp
 rw [<-B] at t a;rw [<-B];clear B;have aE:=t.o W0 (Below.refl _ _);obtain ⟨Q,c1,c2,c3,c4,c5⟩:=aE;go_wp2_with fail
 go_loopw [4,5,17] (fun v aQ W wr=>∃ (k:Nat) (fm:Int) (bs:zd),W=zI k/\k<=r.pn/\aQ=zI fm/\0<=fm/\fm<=72/\ye r f k=some (fm,bs)/\zP wr W0.heap.size v bs/\zL W0 wr) (fun _ _ W _=>r.pn-(intOf W).toNat)
 case atStart=>exact ⟨0,r.fr,[],rfl,by omega,rfl,by have:=ae.o;omega,by have:=ae.o;omega,rfl,World.ownsRow_nil _ _ _ _,Below.refl _ _⟩
 case round =>
  clear Q c1 c2 c3 c4 c5;obtain ⟨k,fm,bs,rfl,aJ,rfl,aW,aX,V,ao,S⟩:=hrel;have P:=zh V;have J:=zh ao;have g:=zh S;have am:bs.length=k:=Tm V;have H:=zh am;have a4:W0.heap.size<=wr.heap.size:=S.size;have a0:w.heap.size<wr.heap.size:=by omega
  have a2:aw<wr.heap.size:=Nat.lt_of_lt_of_le (block_lt_of_cell (N.o 0 au).1) (by omega);clear V ao S am;obtain ⟨Q,c1,c2,c3,c4,c5⟩:=t.o wr g.o;by_cases D:k<r.pn
  ·have aZ:(k:Int)<r.pn:=(by omega);have ai:=cell_later (za a.o g.o) (N.o k D).1;have aj:=cell_later (za a.o g.o) (N.o k D).2;have av:=aD.o k D;obtain ⟨L,A⟩:=qA (zp r.ps k);obtain ⟨M,R⟩:=qA (rN r.ps k);have s:Zh (yj r f fm k=yp f fm r.un L M):=(by show yj r f fm k=yp f fm r.un L M;rw [<-A,<-R];rfl);have al:=Wi r f fm k;obtain ⟨X,ak⟩:=qA (yp f fm r.un L M);obtain ⟨p,C⟩:=qB (wr.alloc (.cells #[zI L,zI M] 64));have E:zL wr p:=(by rw [C];exact zr _ _);have j:=ag.o p (za a.o (za g.o E)) k D fm;rw [A] at ai av j;rw [R] at aj av j;rw [ak] at j s;rw [s.o] at al;have aA:=zh A;have b:p.cell? (zA wr.heap.size 0)=some (zI L):=(by rw [C];go_simp);have aa:=zh b;have af:=zh C;clear ak A R b C;obtain ⟨x,y,z⟩:=X;simp only at j al;have ab:=zh j;have I:=zh E;clear j E;go_wp2_with fail
   rw [<-af.o];refine ab.o.mono ?_;rintro e Y ⟨rfl,c⟩;have G:=zh (za (za g.o I.o) c);have b:=cell_later c aa.o;have az:=zh b;have ad:=zh (J.o.keep (za I.o c));have aK:W0.heap.size<=Y.heap.size:=G.o.size;have aU:wr.heap.size<Y.heap.size:=block_lt_of_cell b;clear c Q c1 c2 c3 c4 c5 ai aj af ab I aa b;have aB:=zh (RH (r:=r) (f:=f));cases y with
   | false =>
    have O:Zh (ye r f (k+1)=none):=(by show ye r f (k+1)=none;rw [ye,P.o];simp only [s.o];rfl);have F:Zh (([],false)=d):=(by show ([],false)=d;rw [<-Z.o,XC aB.o O.o (by omega)];rfl);go_wp2;go_ret2
    rw [<-F.o];exact ws (za a.o G.o)
   | true =>
    have O:Zh (ye r f (k+1)=some (x+L,bs++[((k:Int),x)])):=(by show ye r f (k+1)=_;rw [ye,P.o];simp only [s.o,aA.o];rfl);have ax:True:=trivial;go_wp2_with (at_builtin;have _t:=ax;refine wpList_append_own _ rfl _ _ 58 rfl W0.heap.size 62 aO (.agg #[zI 0,zI 0]) 2 16 Tryz.underlying58 aI aL aM aN rfl (by decide) _ _ _ rfl (ad.o.alloc _) (zA Y.heap.size 0) 1 1 [zI k,zI x] rfl rfl ?c1 ?c2 ?c3 ?c4 ?c5 ?_;clear ax)
    case c1=>exact XG _ _ _ _
    case c2=>exact XH _ _
    case c3=>have:=H.o;simp only [maxLen];omega
    case c4=>have:=H.o;omega
    case c5=>simp;omega
    intro a5 aR ap U _;have ah:=zh (Xi G.o aK ad.o ap U);have b:aR.cell? (zA wr.heap.size 0)=some (zI L):=by
     refine (World.grownBy.cell U (v:=zI L) (cell_later (zr _ _) az.o) ?_);intro aG;exact absurd (J.o.lt _ aG.symm).2 (by simp)
    clear ap U;go_wp2;go_roundw
    case rel=>exact ⟨k+1,x+L,bs++[((k:Int),x)],by go_num,by omega,rfl,by omega,by omega,O.o,ah.o.1,ah.o.2.1⟩
    case measure=>simp [intOf];omega
  obtain rfl:k=r.pn:=by omega
  have F:Zh ((bs,true)=d):=by show (bs,true)=d;rw [<-Z.o,P.o];rfl
  obtain ⟨aS,aT,rfl,aF⟩:=zP.parts J.o (by have:=H.o;omega);go_wp2;go_ret2
  rw [<-F.o];exact ⟨_,_,_,rfl,aF.mono (by first | exact Nat.le_refl _ | (have:=a.o.size;omega) | omega),za a.o g.o⟩
theorem Gz (w:World) (r:Rq) (h:zH w r) (B:z8 false r=0) (m:Option Addr) (p n:Nat) (f:zd) (ap:RunsIn w m p n f) (t:Int) (aM:0<=t) (a9:t<=48) :
 zC 156 #[.agg #[zI r.queue,zI r.fr,zI r.un,zI r.kind,.slice r.pa r.pn r.pc,.slice m p n],zI t] w fun e w'=>ZB w w' e (yB (yr r f t r.ps.length)):=by
 obtain ⟨b,F⟩:=qA (yB (yr r f t r.ps.length));rw [F];have a:=zh ((Below.refl w.heap.size w).alloc (Nat.le_refl _) (.cells #[zI r.queue,zI r.fr,zI r.un,zI r.kind,.slice r.pa r.pn r.pc,.slice m p n] 117));have E:=zh (Xt w r m p n);have aZ:=h.capb;have a2:=h.le;have aD:=zh h.len;have aw:0<r.pn:=by have:=of_decide_eq_true (zv.1 B).2.1;have:=h.len;omega
 have a5:r.pn<=3:=by have:=of_decide_eq_true (zv.1 B).2.1;have:=h.len;omega
 obtain ⟨ay,aS,au,av⟩:=h.cells aw;have S:=zh av;have aE:=zh fun k (aK:k<r.pn)=>yh B (k:=k) (by have:=h.len;omega);have aV:=zh (xA B);have ai:=zh fun aA (d:zL w aA) i (aI:i<r.pn) fm=>Xs aA r (h.later d) m p n f (ap.later d) i aI fm;clear av h ap B;rw [au] at E ai a;rw [au];obtain ⟨aR,aJ,aO,aP,aQ⟩:=info_parts Tryz.infoBite;rw [<-aD.o] at F;have O:=zh F;clear F;go_enter Tryz.func156,Tryz.ntmps156;go_wp2_with fail
 obtain ⟨W0,H⟩:=qB (w.alloc (.cells #[zI r.queue,zI r.fr,zI r.un,zI r.kind,.slice (some ⟨ay,aS,none⟩) r.pn r.pc,.slice m p n] 117));have a7:w.heap.size+1<=W0.heap.size:=by rw [H];simp
 rw [<-H] at E a;rw [<-H];clear H;have aF:=E.o W0 (Below.refl _ _);obtain ⟨U,c1,c2,c3,c4,c5⟩:=aF;go_wp2_with fail
 go_loopw [1,6,15] (fun aT v aa wr=>∃ (k:Nat) (fm:Int) (bs:zd),aa=zI k/\k<=r.pn/\aT=zI fm/\0<=fm/\fm<=48+24*k/\yr r f t k=some (fm,bs)/\zP wr W0.heap.size v bs/\zL W0 wr) (fun _ _ aa _=>r.pn-(intOf aa).toNat)
 case atStart=>exact ⟨0,t,[],rfl,by omega,rfl,aM,by omega,rfl,World.ownsRow_nil _ _ _ _,Below.refl _ _⟩
 case round =>
  clear U c1 c2 c3 c4 c5;obtain ⟨k,fm,bs,rfl,aK,rfl,a0,a1,Z,aq,W⟩:=hrel;have D:=zh Z;have R:=zh aq;have g:=zh W;have ao:bs.length=k:=Oi Z;have P:=zh ao;have a8:W0.heap.size<=wr.heap.size:=W.size;have a4:w.heap.size<wr.heap.size:=by omega
  have a6:ay<wr.heap.size:=Nat.lt_of_lt_of_le (block_lt_of_cell (S.o 0 aw).1) (by omega);clear Z aq W ao;obtain ⟨U,c1,c2,c3,c4,c5⟩:=E.o wr g.o;by_cases J:k<r.pn
  ·have a3:(k:Int)<r.pn:=(by omega);have ak:=cell_later (za a.o g.o) (S.o k J).1;have al:=cell_later (za a.o g.o) (S.o k J).2;have ax:=aE.o k J;obtain ⟨L,G⟩:=qA (zp r.ps k);obtain ⟨M,V⟩:=qA (rN r.ps k);have u:Zh (yj r f fm k=yp f fm r.un L M):=(by show yj r f fm k=yp f fm r.un L M;rw [<-G,<-V];rfl);have an:=Wi r f fm k;obtain ⟨X,am⟩:=qA (yp f fm r.un L M);obtain ⟨A,I⟩:=qB (wr.alloc (.cells #[zI L,zI M] 64));have N:zL wr A:=(by rw [I];exact zr _ _);have j:=ai.o A (za a.o (za g.o N)) k J fm;rw [G] at ak ax j;rw [V] at al ax j;rw [am] at j u;rw [u.o] at an;have aC:=zh G;have c:A.cell? (zA wr.heap.size 0)=some (zI L):=(by rw [I];go_simp);have ad:=zh c;have ah:=zh I;clear am G V c I;obtain ⟨x,y,z⟩:=X;simp only at j an;have ae:=zh j;have Q:=zh N;clear j N;go_wp2_with fail
   rw [<-ah.o];refine ae.o.mono ?_;rintro e ab ⟨rfl,d⟩;have C:=zh (za (za g.o Q.o) d);have c:=cell_later d ad.o;have aB:=zh c;have ag:=zh (R.o.keep (za Q.o d));have aL:W0.heap.size<=ab.heap.size:=C.o.size;have aY:wr.heap.size<ab.heap.size:=block_lt_of_cell c;clear d U c1 c2 c3 c4 c5 ak al ah ae Q ad c;have af:=zh (NU (r:=r) (f:=f) (t:=t));cases y with
   | false =>
    have s:Zh (yr r f t (k+1)=none):=(by show yr r f t (k+1)=none;rw [yr,D.o];simp only [u.o];rfl);have q:Zh (([],false)=b):=(by show ([],false)=b;rw [<-O.o,XC af.o s.o (by omega)];rfl);go_wp2;go_ret2
    rw [<-q.o];exact ws (za a.o C.o)
   | true =>
   by_cases l:x=fm
   ·have aN:(x != fm)=false:=(by simp [l]);have s:Zh (yr r f t (k+1)=some (fm+L,bs++[((k:Int),fm)])):=(by show yr r f t (k+1)=_;rw [yr,D.o];simp only [u.o,aC.o,l];rfl);clear l;have az:True:=trivial;go_wp2_with (at_builtin;have _t:=az;refine wpList_append_own _ rfl _ _ 58 rfl W0.heap.size 62 aR (.agg #[zI 0,zI 0]) 2 16 Tryz.underlying58 aJ aO aP aQ rfl (by decide) _ _ _ rfl (ag.o.alloc _) (zA ab.heap.size 0) 1 1 [zI k,zI fm] rfl rfl ?c1 ?c2 ?c3 ?c4 ?c5 ?_;clear az)
    case c1=>exact XG _ _ _ _
    case c2=>exact XH _ _
    case c3=>have:=P.o;simp only [maxLen];omega
    case c4=>have:=P.o;omega
    case c5=>simp;omega
    intro ba aU ar Y _;have aj:=zh (Xi C.o aL ag.o ar Y);have c:aU.cell? (zA wr.heap.size 0)=some (zI L):=by
     refine (World.grownBy.cell Y (v:=zI L) (cell_later (zr _ _) aB.o) ?_);intro aH;exact absurd (R.o.lt _ aH.symm).2 (by simp)
    clear ar Y;go_wp2;go_roundw
    case rel=>exact ⟨k+1,fm+L,bs++[((k:Int),fm)],by go_num,by omega,rfl,by omega,by omega,s.o,aj.o.1,aj.o.2.1⟩
    case measure=>simp [intOf];omega
   have aN:(x != fm)=true:=(by simp [l]);have s:Zh (yr r f t (k+1)=none):=(by show yr r f t (k+1)=none;rw [yr,D.o];simp only [u.o,l,and_false,if_false]);have q:Zh (([],false)=b):=(by show ([],false)=b;rw [<-O.o,XC af.o s.o (by omega)];rfl);clear l;go_wp2;go_ret2
   rw [<-q.o];exact ws (za a.o C.o)
  obtain rfl:k=r.pn:=by omega
  have q:Zh ((bs,true)=b):=by show (bs,true)=b;rw [<-O.o,D.o];rfl
  obtain ⟨aW,aX,rfl,aG⟩:=zP.parts R.o (by have:=P.o;omega);go_wp2;go_ret2
  rw [<-q.o];exact ⟨_,_,_,rfl,aG.mono (by first | exact Nat.le_refl _ | (have:=a.o.size;omega) | omega),za a.o g.o⟩
theorem JG (w:World) (r:Rq) (h:zH w r) (p:z8 false r=0) (c:Option Addr) (g d:Nat) (f:zd) (I:RunsIn w c g d f) :
 zC 105 #[.agg #[zI r.queue,zI r.fr,zI r.un,zI r.kind,.slice r.pa r.pn r.pc,.slice c g d]] w fun e w'=>ZB w w' e (Yu r f):=by
 obtain ⟨j,E⟩:=qA (Yu r f);rw [E];have Q:=zh fun s (b:zL w s) t ak al=>Gz s r (h.later b) p c g d f (I.later b) t ak al;have l:=zh ((Below.refl w.heap.size w).alloc (Nat.le_refl _) (.cells #[zI r.queue,zI r.fr,zI r.un,zI r.kind,.slice r.pa r.pn r.pc,.slice c g d] 117));have u:=zh (Xt w r c g d);have au:=h.capb;have ay:=h.le;have ar:=zh h.len;have aj:0<r.pn:=by have:=of_decide_eq_true (zv.1 p).2.1;have:=h.len;omega
 have aA:r.pn<=3:=by have:=of_decide_eq_true (zv.1 p).2.1;have:=h.len;omega
 obtain ⟨ao,ap,U,V⟩:=h.cells aj;have Y:=zh V;have Z:=zh fun k (av:k<r.pn)=>yh p (k:=k) (by have:=h.len;omega);have D:=zh (xA p);have P:=zh fun s (b:zL w s) i (af:i<r.pn) fm=>Xs s r (h.later b) c g d f (I.later b) i af fm;clear V h I p;rw [U] at u P l Q;rw [U];have L:=zh E;clear E P Y Z;obtain ⟨F,G⟩:∃ F:Nat,r.fr=F:=⟨r.fr.toNat,by have:=D.o;omega⟩;obtain ⟨a,H⟩:∃ a:Nat,r.un=a:=⟨r.un.toNat,by have:=D.o;omega⟩;have W:=zh G;have O:=zh H;have M:Zh (F<a/\a<=48):=by have:=D.o;exact ⟨by omega,by omega⟩
 have N:Zh (Yu r f=match zw (fun t=>(yr r f t r.ps.length).isSome) F (a-F) with | some t=>yB (yr r f t r.ps.length) | none=>([],false)):=by
  show Yu r f=_;rw [Yu,G,H,Int.toNat_natCast,Int.toNat_natCast]
  all_goals rfl
 clear G H;go_enter Tryz.func105,Tryz.ntmps105;go_wp2_with fail
 obtain ⟨W0,y⟩:=qB (w.alloc (.cells #[zI r.queue,zI r.fr,zI r.un,zI r.kind,.slice (some ⟨ao,ap,none⟩) r.pn r.pc,.slice c g d] 117));have aB:w.heap.size+1<=W0.heap.size:=by rw [y];simp
 rw [<-y] at u l;rw [<-y];clear y;have ae:=u.o W0 (Below.refl _ _);obtain ⟨v,c1,c2,c3,c4,c5⟩:=ae;go_wp2_with fail
 go_loopw [4] (fun J wr=>∃ k:Nat,J=zI k/\F<=k/\k<=a/\zw (fun t=>(yr r f t r.ps.length).isSome) F (a-F)=zw (fun t=>(yr r f t r.ps.length).isSome) k (a-k)/\zL W0 wr) (fun J _=>a-(intOf J).toNat)
 case atStart=>exact ⟨F,by rw [W.o],Nat.le_refl _,by have:=M.o;omega,rfl,Below.refl _ _⟩
 case round =>
  clear v c1 c2 c3 c4 c5;obtain ⟨k,rfl,aw,ax,S,R⟩:=hrel;have B:=zh S;have m:=zh R;clear S R;obtain ⟨v,c1,c2,c3,c4,c5⟩:=u.o wr m.o;by_cases az:k<a
  ·have ah:(k:Int)<r.un:=(by have:=O.o;omega);have ag:(k:Int)<=48:=(by have:=M.o;omega);have n:=Q.o wr (za l.o m.o) k (by omega) ag;cases q:yr r f k r.ps.length with
   | none =>
    rw [q] at n;have C:=zh n;clear n;go_wp2_with fail
    refine C.o.mono ?_;rintro e aq ⟨ab,an,ad,rfl,x,b⟩;have A:=zh (za m.o b);clear b v c1 c2 c3 c4 c5 x;have ai:(yB (none:Option (Int×zd))).2=false:=rfl;rw [ai];go_wp2;go_roundw
    case rel=>exact ⟨k+1,by go_num,by omega,by omega,by rw [B.o,wQ (by omega) (by show (yr r f k r.ps.length).isSome=false;rw [q];rfl)];rfl,A.o⟩
    case measure=>simp [intOf];omega
   | some X =>
    have z:Zh (yB (some X)=j):=by
     show yB (some X)=j;rw [<-L.o,N.o,B.o,Zn (by omega) (by show (yr r f k r.ps.length).isSome=true;rw [q];rfl)];simp only [q]
    rw [q] at n;have C:=zh n;clear n;go_wp2_with fail
    refine C.o.mono ?_;rintro e aq ⟨ab,an,ad,rfl,x,b⟩;have A:=zh (za m.o b);have aa:=zh x;clear b v c1 c2 c3 c4 c5 x;have am:(yB (some X)).2=true:=rfl;rw [am];go_wp2;go_ret2
    rw [<-z.o];exact ⟨_,_,_,rfl,aa.o.mono (by have:=l.o.size;have:=m.o.size;omega),za l.o A.o⟩
  obtain rfl:k=a:=by omega
  have ah:¬(k:Int)<r.un:=by have:=O.o;omega
  have z:Zh (([],false)=j):=by
   show ([],false)=j;rw [<-L.o,N.o,B.o,Nat.sub_self];rfl
  go_wp2;go_ret2
  rw [<-z.o];exact ws (za l.o m.o)
theorem zP.of_block {w w':World} {B:Nat} {v:Value} {l:zd} (h:zP w B v l) (e:∀ g,v.ownBlock=some g->w'.heap[g]?=w.heap[g]?):zP w' B v l:=by
 refine ⟨h.1,?_⟩;rcases h.2 with d | ⟨g,b,c,a,hg,f,i⟩
 ·exact Or.inl d
 refine Or.inr ⟨g,b,c,a,hg,(e g ?_).trans f,i⟩;rw [a];rfl
theorem RunsIn.of_blocks {w w':World} {a:Option Addr} {n c:Nat} {l:zd} (h:RunsIn w a n c l) (d:∀ b e,a=zO b e->w'.heap[b]?=w.heap[b]?):RunsIn w' a n c l:=h.of_away fun _=>d
def GN (a:Option Addr) (n B:Nat) (v:Value):Prop:=0<n->∀ b off,a=zO b off->b≠B/\v.ownBlock≠some b
def Xf (w:World) (B:Nat) (r:Rq) (pb po:Nat) (a:Option Addr) (n c:Nat):Prop:=w.heap[B]?=some (.cells #[zI r.queue,zI r.fr,zI r.un,zI r.kind,.slice (zO pb po) r.pn r.pc,.slice a n c] 117 (0,0))
theorem Xf.cells {w:World} {B:Nat} {r:Rq} {b d:Nat} {a:Option Addr} {n c:Nat} (h:Xf w B r b d a n c) :
 w.cell? (zA B 0)=some (zI r.queue)/\w.cell? (zA B 1)=some (zI r.fr)/\w.cell? (zA B 2)=some (zI r.un)/\w.cell? (zA B 3)=some (zI r.kind)/\w.cell? (zA B 4)=some (.slice (zO b d) r.pn r.pc)/\w.cell? (zA B 5)=some (.slice a n c):=by
 refine ⟨?_,?_,?_,?_,?_,?_⟩ <;> (rw [cell_of_row w B _ _ _ _ h];rfl)
theorem Xf.store {w:World} {B:Nat} {r:Rq} {f g:Nat} {a b:Option Addr} {n c e d:Nat} (h:Xf w B r f g a n c):Xf (w.setCell (zA B 5) (.slice b e d)) B r f g b e d:=by
 unfold Xf;rw [heap_setCell_same w B 5 _ 117 _ h];rfl
theorem Kw {w h f j:World} {B S:Nat} {o:Obj} {r:Rq} {E F:Nat} {a d:Option Addr} {n c g i:Nat} {v p:Value} {bs t:zd} {x y:Int}
 (R:B<S) (L:w.heap.size<=B) (U:S<=h.heap.size) (s:Below w.heap.size w h) (N:Xf h B r E F a n c) (u:zP h S v bs)
 (P:f.ownsRow S 62 2 p (bs.length+1) (cellsOf bs++[zI x,zI y])) (hg:(h.alloc o).grownBy f v.ownBlock) (q:Below f.heap.size f j) (M:RunsIn j d g i t) (D:∀ b m,d=zO b m->f.heap.size<=b) :
 Xf (j.setCell (zA B 5) (.slice d g i)) B r E F d g i/\zP (j.setCell (zA B 5) (.slice d g i)) S p (bs++[(x,y)])/\RunsIn (j.setCell (zA B 5) (.slice d g i)) d g i t/\GN d g B p/\Below w.heap.size w (j.setCell (zA B 5) (.slice d g i))/\S<=(j.setCell (zA B 5) (.slice d g i)).heap.size:=by
 have z:zP f S p (bs++[(x,y)]):=by unfold zP;rw [YD];simpa using P
 have O:B<h.heap.size:=by omega
 have V:h.heap.size<f.heap.size:=by have:=hg.size;simp at this;omega
 have J:v.ownBlock≠some B:=fun e=>by have:=(u.lt B e).1;omega
 have H:f.heap[B]?=h.heap[B]?:=(hg.block B (by simp;omega) (fun e=>J e.symm)).trans (Below.heap_alloc _ _ _ O);have I:j.heap[B]?=h.heap[B]?:=(q.block B (by omega)).trans H;have C:zL w f:=(s.alloc s.size o).grown hg (by have:=s.size;simp;omega) (fun k l=>by have:=(u.lt k l).1;omega);have A:∀ k,p.ownBlock=some k->S<=k/\k<f.heap.size:=fun k l=>z.lt k l;refine ⟨Xf.store (I.trans N),(z.keep q).of_block (fun k l=>Below.heap_setCell _ _ _ k (by have:=(A k l).1;simp only;omega)),M.of_blocks (fun b m e=>Below.heap_setCell _ _ _ b (by have:=D b m e;simp only;omega)),?_,?_,?_⟩
 ·intro _ b m e;have Q:=D b m e;exact ⟨by omega,fun G=>by have:=(A b G).2;omega⟩
 ·exact (C.trans (q.mono C.size)).setCell L _
 ·simp only [World.setCell,Array.size_modify];have:=q.size;omega
theorem Iw (w:World) (r:Rq) (h:zH w r) (S:z8 false r=0) (A:Option Addr) (B H:Nat) (f:zd) (aR:RunsIn w A B H f) :
 zC 102 #[.agg #[zI r.queue,zI r.fr,zI r.un,zI r.kind,.slice r.pa r.pn r.pc,.slice A B H]] w fun e w'=>ZB w w' e (yB (yC r f r.ps.length)):=by
 obtain ⟨p,P⟩:=qA (yB (yC r f r.ps.length));rw [P];have bD:=h.capb;have bE:=h.le;have bc:=zh h.len;have aX:0<r.pn:=by have:=of_decide_eq_true (zv.1 S).2.1;have:=h.len;omega
 have bG:r.pn<=3:=by have:=of_decide_eq_true (zv.1 S).2.1;have:=h.len;omega
 obtain ⟨m,C,aV,aW⟩:=h.cells aX;have ag:=zh aW;have bd:=zh fun k (bn:k<r.pn)=>yh S (k:=k) (by have:=h.len;omega);have aF:=zh fun ap (j:zL w ap) a n c g (hg:RunsIn ap a n c g) i (bl:i<r.pn) fm=>Xs ap r (h.later j) a n c g hg i bl fm;have aA:=zh aR;rw [<-bc.o] at P;have au:=zh P;clear aW h aR S P;rw [aV] at aF;rw [aV];obtain ⟨bw,bm,bt,bu,bv⟩:=info_parts Tryz.infoBite;have a9:=zh (Q6 (r:=r) (f:=f));go_enter Tryz.func102,Tryz.ntmps102;go_wp2_with fail
 obtain ⟨W0,u⟩:=qB (w.alloc (.cells #[zI r.queue,zI r.fr,zI r.un,zI r.kind,.slice (some ⟨m,C,none⟩) r.pn r.pc,.slice A B H] 117));have bJ:w.heap.size+1<=W0.heap.size:=by rw [u];simp
 have bK:W0.heap.size<=w.heap.size+1:=by rw [u];simp
 have ar:Zh (zL w W0):=by rw [u];exact zr _ _
 have aG:Zh (Xf W0 w.heap.size r m C A B H):=by rw [u];exact heap_alloc_new w _
 have a1:Zh (∀ v:Value,v.ownBlock=none->GN A B w.heap.size v):=fun v br Y b aZ e=>⟨by have:=aA.o.lt Y e;omega,by rw [br];simp⟩;rw [<-u];clear u;obtain ⟨E,c1,c2,c3,c4,c5⟩:=aG.o.cells;go_wp2_with fail
 go_loopw [4,13] (fun v ao wr=>∃ (k:Nat) (g bs:zd) (a:Option Addr) (n c:Nat),ao=zI k/\k<=r.pn/\yC r f k=some (g,bs)/\Xf wr w.heap.size r m C a n c/\zP wr W0.heap.size v bs/\RunsIn wr a n c g/\GN a n w.heap.size v/\zL w wr/\W0.heap.size<=wr.heap.size) (fun _ ao _=>r.pn-(intOf ao).toNat)
 case atStart=>exact ⟨0,f,[],A,B,H,rfl,by omega,rfl,aG.o,World.ownsRow_nil _ _ _ _,aA.o.later ar.o,a1.o _ rfl,ar.o,Nat.le_refl _⟩
 case round =>
  clear E c1 c2 c3 c4 c5;obtain ⟨k,g,bs,a,n,c,rfl,bn,an,aQ,aT,aJ,aM,aO,bL⟩:=hrel;have ai:=zh an;have aw:=zh aQ;have ae:=zh aT;have aC:=zh aJ;have a2:=zh aM;have D:=zh aO;have aP:bs.length=k:=Rb an;have aa:=zh aP;clear an aQ aT aJ aM aO aP;have bo:w.heap.size<wr.heap.size:=by omega
  have bH:m<wr.heap.size:=Nat.lt_of_lt_of_le (block_lt_of_cell (ag.o 0 aX).1) (by omega);obtain ⟨E,c1,c2,c3,c4,c5⟩:=aw.o.cells;by_cases V:k<r.pn
  ·have bF:(k:Int)<r.pn:=(by omega);have aH:=cell_later D.o (ag.o k V).1;have aI:=cell_later D.o (ag.o k V).2;have aY:=bd.o k V;obtain ⟨L,Q⟩:=qA (zp r.ps k);obtain ⟨M,R⟩:=qA (rN r.ps k);have J:Zh (yj r g r.fr k=yp g r.fr r.un L M):=(by show yj r g r.fr k=yp g r.fr r.un L M;rw [<-Q,<-R];rfl);have aN:=Wi r g r.fr k;obtain ⟨X,aL⟩:=qA (yp g r.fr r.un L M);obtain ⟨t,F⟩:=qB (wr.alloc (.cells #[zI L,zI M] 64));have I:zL wr t:=(by rw [F];exact zr _ _);have s:=aF.o t (za D.o I) a n c g (aC.o.later I) k V r.fr;rw [Q] at aH aY s;rw [R] at aI aY s;rw [aL] at s J;rw [J.o] at aN;have a7:=zh Q;have a8:=zh R;have N:t.cell? (zA wr.heap.size 0)=some (zI L):=(by rw [F];go_simp);have O:t.cell? (zA wr.heap.size 1)=some (zI M):=(by rw [F];go_simp);have ax:=zh N;have az:=zh O;have aE:=zh F;clear aL Q R N O F;obtain ⟨x,y,z⟩:=X;simp only at s aN;have aB:=zh s;have ab:=zh I;clear s I;go_wp2_with fail
   rw [<-aE.o];refine aB.o.mono ?_;rintro e d ⟨rfl,j⟩;have av:=zh (za (za D.o ab.o) j);have G:=za ab.o j;have ay:=zh (cell_later j ax.o);have a5:=zh (cell_later j az.o);have af:=zh (ae.o.keep G);have ad:Zh (Xf d w.heap.size r m C a n c):=(G.block _ bo).trans aw.o;have aD:=zh (aC.o.later G);have bq:W0.heap.size<=d.heap.size:=(by have:=G.size;omega);have bj:wr.heap.size<d.heap.size:=block_lt_of_cell ay.o;clear j G E c1 c2 c3 c4 c5 aH aI aE aB ab ax az;cases y with
   | false =>
    have ah:Zh (yC r f (k+1)=none):=(by show yC r f (k+1)=none;rw [yC,ai.o];simp only [J.o];rfl);have Z:Zh (([],false)=p):=(by show ([],false)=p;rw [<-au.o,XC a9.o ah.o (by omega)];rfl);go_wp2;go_ret2
    rw [<-Z.o];exact ws av.o
   | true =>
    have ah:Zh (yC r f (k+1)=some ((yV g x (x+L) (-M)).1,bs++[((k:Int),x)])):=(by show yC r f (k+1)=_;rw [yC,ai.o];simp only [J.o,a7.o,a8.o];rfl);have a0:True:=trivial;go_wp2_with (at_builtin;have _t:=a0;refine wpList_append_own _ rfl _ _ 58 rfl W0.heap.size 62 bw (.agg #[zI 0,zI 0]) 2 16 Tryz.underlying58 bm bt bu bv rfl (by decide) _ _ _ rfl (af.o.alloc _) (zA d.heap.size 0) 1 1 [zI k,zI x] rfl rfl ?c1 ?c2 ?c3 ?c4 ?c5 ?_;clear a0)
    case c1=>exact XG _ _ _ _
    case c2=>exact XH _ _
    case c3=>have:=aa.o;simp only [maxLen];omega
    case c4=>have:=aa.o;omega
    case c5=>simp;omega
    intro bM l aU U _;have bI:d.heap.size<l.heap.size:=(by have:=U.size;simp at this;omega);have W:∀ b,b<d.heap.size->u4.ownBlock≠some b->l.heap[b]?=d.heap[b]?:=fun b j bp=>(U.block b (by simp;omega) (fun e=>bp e.symm)).trans (Below.heap_alloc _ _ _ j);have be:Zh (RunsIn l a n c g):=aD.o.of_away fun Y b aZ e=>W b (aD.o.lt Y e) (a2.o Y b aZ e).2;have aj:l.heap[w.heap.size]?=d.heap[w.heap.size]?:=W _ (by omega) (fun e=>by have:=(af.o.lt _ e).1;omega);have al:l.heap[wr.heap.size]?=d.heap[wr.heap.size]?:=W _ bj (fun e=>by have:=(ae.o.lt _ e).2;omega);have N:l.cell? (zA wr.heap.size 0)=some (zI L):=(World.cell?_of_block (w:=d) (a:=(zA wr.heap.size 0)) al).trans ay.o;have O:l.cell? (zA wr.heap.size 1)=some (zI M):=(World.cell?_of_block (w:=d) (a:=(zA wr.heap.size 1)) al).trans a5.o;obtain ⟨E,c1,c2,c3,c4,c5⟩:=Xf.cells (show Xf l w.heap.size r m C a n c from aj.trans ad.o);have bb:=zh aU;have a6:=zh U;have a3:=zh aj;clear aU U W aj al;go_wp2_with fail
    refine (OC l a n c g x (x+L) (-M) be.o).mono ?_;rintro e aq ⟨bg,bx,bh,rfl,aK,am,aS⟩;have bf:=zh aK;have a4:=zh am;have ba:=zh aS;have ak:aq.heap[w.heap.size]?=some (.cells #[zI r.queue,zI r.fr,zI r.un,zI r.kind,.slice (zO m C) r.pn r.pc,.slice a n c] 117 (0,0)):=(am.block _ (by omega)).trans (a3.o.trans ad.o);have bA:=(Xf.cells (w:=aq) ak).2.2.2.2.2;have bC:=frozen_of_row aq w.heap.size 5 _ _ ak;clear aK am aS E c1 c2 c3 c4 c5 N O ak;have q:=zh (Kw (x:=(k:Int)) (y:=x) (o:=.cells #[zI k,zI x] 62) (by omega) (Nat.le_refl _) bq av.o ad.o af.o bb.o a6.o a4.o bf.o ba.o);go_wp2;go_roundw
    case rel=>exact ⟨k+1,_,_,bg,bx,bh,by go_num,by omega,ah.o,q.o.1,q.o.2.1,q.o.2.2.1,q.o.2.2.2.1,q.o.2.2.2.2.1,q.o.2.2.2.2.2⟩
    case measure=>simp [intOf];omega
  obtain rfl:k=r.pn:=by omega
  have Z:Zh ((bs,true)=p):=by show (bs,true)=p;rw [<-au.o,ai.o];rfl
  obtain ⟨bz,bB,rfl,bi⟩:=zP.parts ae.o (by have:=aa.o;omega);go_wp2;go_ret2
  rw [<-Z.o];exact ⟨_,_,_,rfl,bi.mono (by first | exact Nat.le_refl _ | omega),D.o⟩
theorem Wk (a:World) (m c:Nat) (e:Array MapEntry) (k:Int) (val:Value) (f:a.heap[m]?=some (.map e c)) (h:Instr.findNow (.int .i64) (zI k) e.toList 0=some none) :
 ∃ d:World,(Instr.mapUpdate 120 (.map (some m)) (zI k) val).run Tryz.prog a=.ok () d/\d.heap[m]?=some (.map (e.push { key:=zI k,val:=val,born:=c }) (c+1))/\Below m a d/\d.heap.size=a.heap.size:=by
 have j:Tryz.prog.underlying 120=some (.map 3 119):=by kernel_rfl
 have g:(Instr.checkKey false 10000 3 (zI k)).run Tryz.prog a=.ok () a:=MapKept.run_checkKey (k:=zI k) Tryz.underlying3 (by simp [MapKept.IsKey]) false 9999;have i:m<a.heap.size:=(Array.getElem?_eq_some_iff.1 f).1;refine ⟨{ a with heap:=a.heap.setIfInBounds m (.map (e.push { key:=zI k,val:=val,born:=c }) (c+1)) },?_,?_,⟨rfl,rfl,rfl,by simp,fun b f=>?_⟩,by simp⟩
 ·simp [Instr.mapUpdate,run_underlying j,MapKept.run_getObj_map f,g,MapKept.run_findKey Tryz.underlying3 h,MapKept.run_setObj_map _ f,Result.andThen]
 ·simp [i]
 ·simp [Array.getElem?_setIfInBounds_ne (show m≠b by omega)]
theorem M6 (a:World) (m c i:Nat) (b:Array MapEntry) (k:Int) (val:Value) (d:a.heap[m]?=some (.map b c)) (f:Instr.findNow (.int .i64) (zI k) b.toList 0=some (some (i,val))) :
 (Instr.lookup 120 (.map (some m)) (zI k) false).run Tryz.prog a=.ok val a:=by
 have g:Tryz.prog.underlying 120=some (.map 3 119):=by kernel_rfl
 have e:(Instr.checkKey b.isEmpty 10000 3 (zI k)).run Tryz.prog a=.ok () a:=MapKept.run_checkKey (k:=zI k) Tryz.underlying3 (by simp [MapKept.IsKey]) b.isEmpty 9999;simp [Instr.lookup,run_underlying g,MapKept.run_getObj_map d,e,MapKept.run_findKey Tryz.underlying3 f,Result.andThen]
def VI (sk:Value):Array MapEntry:=#[{ key:=zI 1,val:=.func (.func 102) #[sk] #[],born:=0 },{ key:=zI 2,val:=.func (.func 103) #[sk] #[],born:=1 },{ key:=zI 3,val:=.func (.func 104) #[sk] #[],born:=2 },{ key:=zI 4,val:=.func (.func 105) #[sk] #[],born:=3 }]
theorem Hm (w:World) (r:Rq) (a:Option Addr) (c b:Nat) :
 zC 61 #[.agg #[zI r.queue,zI r.fr,zI r.un,zI r.kind,.slice r.pa r.pn r.pc,.slice a c b]] w fun e w'=>∃ m,e=.returned (.map (some m))/\w'.heap[m]?=some (.map (VI (.agg #[zI r.queue,zI r.fr,zI r.un,zI r.kind,.slice r.pa r.pn r.pc,.slice a c b])) 4)/\Below w.heap.size w w':=by
 have g:=zh ((Below.refl w.heap.size w).alloc (Nat.le_refl _) (.cells #[zI r.queue,zI r.fr,zI r.un,zI r.kind,.slice r.pa r.pn r.pc,.slice a c b] 117));have d:=zh (Xt w r a c b);obtain ⟨D,x⟩:∃ D:Value,.agg #[zI r.queue,zI r.fr,zI r.un,zI r.kind,.slice r.pa r.pn r.pc,.slice a c b]=D:=⟨_,rfl⟩;have E:=zh x;clear x;go_enter Tryz.func61,Tryz.ntmps61;go_wp2_with fail
 rw [run_makeMap];obtain ⟨W0,h⟩:=qA (w.alloc (.cells #[zI r.queue,zI r.fr,zI r.un,zI r.kind,.slice r.pa r.pn r.pc,.slice a c b] 117));have hs0:W0.heap.size=w.heap.size+1:=by rw [<-h];simp
 rw [h] at g d;rw [h];obtain ⟨f,i⟩:=qA (W0.alloc (.map #[] 0));have y:f.heap[w.heap.size+1]?=some (.map #[] 0):=by rw [<-i,<-hs0];exact heap_alloc_new W0 _
 have b1:zL W0 f:=by rw [<-i];exact zr _ _
 rw [i,hs0];clear i h;obtain ⟨t,ah,z,j,H⟩:=Wk f (w.heap.size+1) 0 #[] 1 (.func (.func 102) #[.agg #[zI r.queue,zI r.fr,zI r.un,zI r.kind,.slice r.pa r.pn r.pc,.slice a c b]] #[]) y rfl;obtain ⟨u,ai,A,k,I⟩:=Wk t (w.heap.size+1) 1 _ 2 (.func (.func 103) #[.agg #[zI r.queue,zI r.fr,zI r.un,zI r.kind,.slice r.pa r.pn r.pc,.slice a c b]] #[]) z rfl;obtain ⟨v,aj,B,l,J⟩:=Wk u (w.heap.size+1) 2 _ 3 (.func (.func 104) #[.agg #[zI r.queue,zI r.fr,zI r.un,zI r.kind,.slice r.pa r.pn r.pc,.slice a c b]] #[]) A rfl;obtain ⟨M,ak,C,n,L⟩:=Wk v (w.heap.size+1) 3 _ 4 (.func (.func 105) #[.agg #[zI r.queue,zI r.fr,zI r.un,zI r.kind,.slice r.pa r.pn r.pc,.slice a c b]] #[]) B rfl;rw [<-hs0] at j k l n;have p:=b1.trans j;have q:=p.trans k;have s:=q.trans l;have G:=zh (g.o.trans ((s.trans n).mono g.o.size));have F:=zh C;obtain ⟨N,O,P,Q,R,S⟩:=d.o f b1;obtain ⟨U,V,W,X,Y,Z⟩:=d.o t p;obtain ⟨aa,ab,ad,ae,af,ag⟩:=d.o u q;obtain ⟨al,am,an,ao,ap,aq⟩:=d.o v s;clear p q s b1 j k l n y z A B C H I J L hs0 d g E;go_wp2;go_ret;exact ⟨_,rfl,F.o,G.o⟩
def yq (f:zd) (r:Rq):Int:=if xe f=true then z8 false r else 1
def Rq.at0 (r:Rq):Rq:=⟨0,r.fr,r.un,r.kind,r.pa,r.pn,r.pc,r.ps⟩
def H6 (c:Nat):QL:=[⟨⟨#[97,110,121]⟩,-1,zO c 0,1,1,[(0,0)]⟩]
theorem Ih (c:Nat) (r:Rq):yI (H6 c) r.at0=z8 false r:=by
 have a:z9 (H6 c)=0:=by rfl
 rw [yI,if_pos a];rfl
theorem H7 {w:World} {c q:Nat} (f:w.heap[c]?=some (.cells #[zI 0,zI 0] 55 (0,0))) (d:w.heap[q]?=some (.cells #[.string ⟨#[97,110,121]⟩,zI (-1),.slice (zO c 0) 1 1] 66 (0,0))):QsIn w (zO q 0) 1 1 (H6 c):=by
 refine ⟨rfl,Nat.le_refl _,by omega,fun _=>⟨q,0,rfl,fun i a=>?_⟩,fun i a=>?_,fun i a=>?_,fun _ b g e=>by cases e;exact Or.inr ⟨_,_,d⟩⟩
 ·rw [cell_of_row w _ _ _ _ _ d,cell_of_row w _ _ _ _ _ d,cell_of_row w _ _ _ _ _ d]
  match i,a with
  | 0,_=>exact ⟨rfl,rfl,rfl⟩
 ·match i,a with
  | 0,_=>exact xG f [(0,0)] 1 rfl rfl (by decide)
 match i,a with
 | 0,_=>show (⟨#[97,110,121]⟩:ByteArray).size<=9223372036854775807;decide
theorem Ve (w:World) (r:Rq) (h:zH w r) (v:Option Addr) (z y:Nat) (f:zd) (J:RunsIn w v z y f) :
 zC 60 #[.slice v z y,.agg #[zI r.queue,zI r.fr,zI r.un,zI r.kind,.slice r.pa r.pn r.pc]] w fun e w'=>e=.returned (zI (yq f r))/\Below w.heap.size w w':=by
 have n:=zh ((Below.refl w.heap.size w).alloc (Nat.le_refl _) (.cells (zR r) 24));have P:=zh J;have Q:=zh h;clear h J;have k:=zh (yg _ v z y f (P.o.later n.o));cases m:xe f with
 | false =>
  have t:Wd f=1:=by simp [Wd,m]
  have l:yq f r=1:=by simp [yq,m]
  rw [l];rw [t] at k;go_enter Tryz.func60,Tryz.ntmps60;go_wp2_with fail
  refine k.o.mono ?_;rintro e c ⟨rfl,b⟩;have p:=zh (za n.o b);clear b;go_wp2;go_ret;exact ⟨rfl,p.o⟩
 | true =>
  have t:Wd f=0:=by simp [Wd,m]
  have l:yq f r=z8 false r:=by simp [yq,m]
  rw [l];obtain ⟨x,u⟩:=qA (z8 false r);rw [u];have R:=zh u;clear u l;rw [t] at k;have S:Zh (∀ c:World,Below (w.alloc (.cells (zR r) 24)).heap.size (w.alloc (.cells (zR r) 24)) c->c.heap[w.heap.size]?=some (.cells (zR r) 24 (0,0))):=fun c b=>(b.block _ (by simp)).trans (heap_alloc_new w _);go_enter Tryz.func60,Tryz.ntmps60;go_wp2_with fail
  refine k.o.mono ?_;rintro e c ⟨rfl,b⟩;have p:=zh (za n.o b);have i:=S.o c b;have V:w.heap.size<c.heap.size:=(Array.getElem?_eq_some_iff.1 i).1;obtain ⟨a,H⟩:=qA (c.setCell ⟨w.heap.size,0,none⟩ (zI 0));have g:a.heap[w.heap.size]?=some (.cells #[zI 0,zI r.fr,zI r.un,zI r.kind,.slice r.pa r.pn r.pc] 24 (0,0)):=by rw [<-H,heap_setCell_same c w.heap.size 0 _ 24 _ i];rfl
  have B:=cell_of_row c w.heap.size 0 _ _ _ i;simp at B;have U:=frozen_of_row c w.heap.size 0 _ _ i;have C:=cell_of_row a w.heap.size 0 _ _ _ g;have D:=cell_of_row a w.heap.size 1 _ _ _ g;have E:=cell_of_row a w.heap.size 2 _ _ _ g;have F:=cell_of_row a w.heap.size 3 _ _ _ g;have G:=cell_of_row a w.heap.size 4 _ _ _ g;simp at C D E F G;have W:w.heap.size<a.heap.size:=(Array.getElem?_eq_some_iff.1 g).1;have A:Zh (zL w a):=by rw [<-H];exact p.o.setCell (Nat.le_refl _) _
  have O:=zh i;clear b i g;go_wp2_with fail
  obtain ⟨d,j⟩:=qA ((a.alloc (.cells #[zI 0,zI 0] 55)).alloc (.cells #[.string ⟨#[97,110,121]⟩,zI (-1),.slice (some ⟨a.heap.size,0,none⟩) 1 1] 66));have I:d.heap[a.heap.size]?=some (.cells #[zI 0,zI 0] 55 (0,0)):=by rw [<-j,Below.heap_alloc _ _ _ (by simp)];exact heap_alloc_new a _
  have L:d.heap[a.heap.size+1]?=some (.cells #[.string ⟨#[97,110,121]⟩,zI (-1),.slice (zO a.heap.size 0) 1 1] 66 (0,0)):=by
   rw [<-j];have:=heap_alloc_new (a.alloc (.cells #[zI 0,zI 0] 55)) (.cells #[.string ⟨#[97,110,121]⟩,zI (-1),.slice (zO a.heap.size 0) 1 1] 66);rwa [World.size_alloc] at this
  have s:zL a d:=by rw [<-j];exact (zr _ _).alloc (by simp) _
  have q:=WD d _ 1 1 (H6 a.heap.size) (H7 I L) r.at0 (Q.o.later (za A.o s):zH d r);rw [Ih,R.o] at q;rw [j];have M:=zh (za A.o s);clear I L s j B C D E F G U O;refine q.mono ?_;clear q;rintro e X ⟨rfl,b⟩;have N:=zh (za M.o b);clear b;go_wp2;go_ret;exact ⟨rfl,N.o⟩
def JU (w w':World) (e:Ending) (x:zd×Bool) (er:Int):Prop:=∃ a n cap,e=.returned (.tuple #[.slice a n cap,.bool x.2,zI er])/\wk w.heap.size w' a n cap x.1/\Below w.heap.size w w'
theorem So (F:Nat) (W:∀ (args:Array Value) (w:World),(callFunc F args).run Tryz.prog w=.ok (.enter F args) w) (k:zd×Bool) (w:World) (r:Rq) (h:zH w r) (s:Option Addr) (u t:Nat) (f:zd) (Z:RunsIn w s u t f) (Y:yq f r=0)
 (Q:∀ m L,L.heap[m]?=some (.map (VI (.agg #[zI r.queue,zI r.fr,zI r.un,zI r.kind,.slice r.pa r.pn r.pc,.slice s u t])) 4)->(Instr.lookup 120 (.map (some m)) (zI r.kind) false).run Tryz.prog L=.ok (.func (.func F) #[.agg #[zI r.queue,zI r.fr,zI r.un,zI r.kind,.slice r.pa r.pn r.pc,.slice s u t]] #[]) L)
 (C:∀ w',Below w.heap.size w w'->zC F #[.agg #[zI r.queue,zI r.fr,zI r.un,zI r.kind,.slice r.pa r.pn r.pc,.slice s u t]] w' fun e S=>ZB w' S e k) :
 zC 24 #[.slice s u t,.agg #[zI r.queue,zI r.fr,zI r.un,zI r.kind,.slice r.pa r.pn r.pc]] w fun e w'=>JU w w' e k 0:=by
 have J:=zh ((Below.refl w.heap.size w).alloc (Nat.le_refl _) (.cells (zR r) 24));have E:=Ve _ r (h.later J.o) s u t f (Z.later J.o);rw [Y] at E;have E:=zh E;have ag:=zh (wn w r);have ab:=zh W;have ai:=zh Q;have ah:=zh C;clear W Q C h Z Y;go_enter Tryz.func24,Tryz.ntmps24;go_wp2_with fail
 refine E.o.mono ?_;rintro e D ⟨rfl,i⟩;obtain ⟨M,c1,c2,c3,c4⟩:=ag.o D i;have ad:=zh (za J.o i);clear i E;go_wp2_with fail
 obtain ⟨V,O⟩:=qA (D.alloc (.cells #[zI r.queue,zI r.fr,zI r.un,zI r.kind,.slice r.pa r.pn r.pc,.slice s u t] 117));obtain ⟨B,N⟩:=qA (D.heap.size);have H:=zh (Xt D r s u t);have G:=zh (za ad.o ((Below.refl D.heap.size D).alloc (Nat.le_refl _) (.cells #[zI r.queue,zI r.fr,zI r.un,zI r.kind,.slice r.pa r.pn r.pc,.slice s u t] 117)));rw [O] at H G;rw [O];rw [N] at H;rw [N];clear O N M c1 c2 c3 c4;go_cut [9,10] (fun p q aa=>∃ a n b,p=.slice a n b/\q=.bool k.2/\wk w.heap.size aa a n b k.1/\zL w aa)
 case first =>
  refine zV ((Tryz.f24.body.bind fun c=>yi c 5).getD #[]) (by kernel_rfl) [zl (.agg #[zI r.queue,zI r.fr,zI r.un,zI r.kind,.slice r.pa r.pn r.pc,.slice s u t]),⟨fun v X=>∃ m,v=.map (some m)/\X.heap[m]?=some (.map (VI (.agg #[zI r.queue,zI r.fr,zI r.un,zI r.kind,.slice r.pa r.pn r.pc,.slice s u t])) 4),fun _ X I ⟨m,z,A⟩ i=>⟨m,z,(i.block m (Array.getElem?_eq_some_iff.1 A).1).trans A⟩⟩,zl (.pointer (zO B 0)),zl (.pointer (zO B 3)),zl (zI r.kind),zl (.func (.func F) #[.agg #[zI r.queue,zI r.fr,zI r.un,zI r.kind,.slice r.pa r.pn r.pc,.slice s u t]] #[]),⟨fun v X=>∃ a n b,v=.tuple #[.slice a n b,.bool k.2]/\wk w.heap.size X a n b k.1,fun _ X I ⟨a,n,b,z,A⟩ i=>⟨a,n,b,z,A.later i⟩⟩,⟨fun v X=>∃ a n b,v=.tuple #[.slice a n b,.bool k.2]/\wk w.heap.size X a n b k.1,fun _ X I ⟨a,n,b,z,A⟩ i=>⟨a,n,b,z,A.later i⟩⟩,⟨fun v X=>∃ a n b,v=.slice a n b/\wk w.heap.size X a n b k.1,fun _ X I ⟨a,n,b,z,A⟩ i=>⟨a,n,b,z,A.later i⟩⟩,zl (.bool k.2),⟨fun v X=>∃ a n b,v=.slice a n b/\wk w.heap.size X a n b k.1,fun _ X I ⟨a,n,b,z,A⟩ i=>⟨a,n,b,z,A.later i⟩⟩,zl (.bool k.2)] [] (by kernel_rfl) (by kernel_rfl) (by kernel_rfl) ?hg ?hstep ?hfin
  case hg =>
   intro g hg v w h;cases hg
  case hstep =>
   refine zc.cons 1 rfl ?_ ?_
   ·intro T w' i l j;have y:T.getD 8 undef=.pointer (zO B 0):=l 8;obtain ⟨M,c1,c2,c3,c4,c5⟩:=H.o w' i;exact zs (by go_simp) rfl
   refine zc.cons 2 rfl ?_ ?_
   ·intro T w' i l j;have y:T.getD 21 undef=_:=j 0 21;refine Or.inr ⟨61,#[.agg #[zI r.queue,zI r.fr,zI r.un,zI r.kind,.slice r.pa r.pn r.pc,.slice s u t]],by go_simp,?_⟩;refine (Hm w' r s u t).mono ?_;rintro e S ⟨m,rfl,C,P⟩;exact ⟨_,rfl,⟨m,rfl,C⟩,P⟩
   refine zc.cons 3 rfl ?_ ?_
   ·intro T w' i l j;have y:T.getD 8 undef=.pointer (zO B 0):=l 8;exact zs (by go_simp) rfl
   refine zc.cons 4 rfl ?_ ?_
   ·intro T w' i l j;have y:T.getD 23 undef=_:=j 2 23;exact zs (by go_simp) rfl
   refine zc.cons 5 rfl ?_ ?_
   ·intro T w' i l j;have y:T.getD 24 undef=_:=j 3 24;obtain ⟨M,c1,c2,c3,c4,c5⟩:=H.o w' i;exact zs (by go_simp) rfl
   refine zc.cons 6 rfl ?_ ?_
   ·intro T w' i l j;obtain ⟨m,y,C⟩:=j 1 22;have z:T.getD 25 undef=_:=j 4 25;have Q:=ai.o m w' C;exact zs (by go_simp) rfl
   refine zc.cons 7 rfl ?_ ?_
   ·intro T w' i l j;have y:T.getD 26 undef=_:=j 5 26;have ao:=ab.o;refine Or.inr ⟨F,#[.agg #[zI r.queue,zI r.fr,zI r.un,zI r.kind,.slice r.pa r.pn r.pc,.slice s u t]],by go_simp,?_⟩;refine (ah.o w' (za G.o i)).mono ?_;rintro e S ⟨a,n,b,rfl,x,P⟩;exact ⟨_,rfl,⟨a,n,b,rfl,x.mono (by have:=(za G.o i).size;omega)⟩,P⟩
   refine zc.cons 8 rfl ?_ ?_
   ·intro T w' i l j;obtain ⟨a,n,b,y,x⟩:=j 6 27;exact Or.inl ⟨.tuple #[.slice a n b,.bool k.2],w',by go_simp,⟨a,n,b,rfl,x⟩,Below.refl _ _⟩
   refine zc.cons 9 rfl ?_ ?_
   ·intro T w' i l j;obtain ⟨a,n,b,y,x⟩:=j 7 20;exact Or.inl ⟨.slice a n b,w',by go_simp,⟨a,n,b,rfl,x⟩,Below.refl _ _⟩
   refine zc.cons 10 rfl ?_ ?_
   ·intro T w' i l j;obtain ⟨a,n,b,y,x⟩:=j 7 20;exact zs (by go_simp) rfl
   refine zc.cons 11 rfl ?_ ?_
   ·intro T w' i l j;obtain ⟨a,n,b,y,x⟩:=j 8 28;exact Or.inl ⟨.slice a n b,w',by go_simp,⟨a,n,b,rfl,x⟩,Below.refl _ _⟩
   refine zc.cons 12 rfl ?_ ?_
   ·intro T w' i l j;have y:T.getD 29 undef=_:=j 9 29;exact zs (by go_simp) rfl
   exact trivial
  intro T w' i an l j;obtain ⟨a,n,b,ak,x⟩:=j 10 9;have aj:T.getD 10 undef=.bool k.2:=j 11 10;rw [yb (tt 9 [false,false,true,true,true,true,true,true,true,true,true,false,false,false,false,false,false,false,false,false,false] 2) (by kernel_rfl) an @l];obtain ⟨us,R⟩:∃ us:Nat->Value,(fun d=>T.getD d undef)=us:=⟨_,rfl⟩;rw [R];have am:us 9=.slice a n b:=by rw [<-R];exact ak
  have al:us 10=.bool k.2:=by rw [<-R];exact aj
  apply_assumption;simp only [xj,tt,List.replicate,List.cons_append,List.nil_append];go_meet;exact ⟨a,n,b,am,al,x,za G.o i⟩
 case rest =>
  obtain ⟨a,n,b,rfl,rfl,x,U⟩:=hcut;have af:=zh x;have ae:=zh U;clear x U;go_wp2;go_ret3
  exact ⟨a,n,b,rfl,af.o,ae.o⟩
theorem Sv (b:Value) (k:Int) (F i:Nat) (c:Instr.findNow (.int .i64) (zI k) (VI b).toList 0=some (some (i,.func (.func F) #[b] #[]))):∀ m a,a.heap[m]?=some (.map (VI b) 4)->(Instr.lookup 120 (.map (some m)) (zI k) false).run Tryz.prog a=.ok (.func (.func F) #[b] #[]) a :=
 fun m a d=>M6 a m 4 i (VI b) k _ d c
theorem JR (w:World) (r:Rq) (h:zH w r) (c:Option Addr) (g d:Nat) (f:zd) (i:RunsIn w c g d f) :
 zC 24 #[.slice c g d,.agg #[zI r.queue,zI r.fr,zI r.un,zI r.kind,.slice r.pa r.pn r.pc]] w fun e w'=>JU w w' e (if yq f r=0 then Zf r f else ([],false)) (yq f r):=by
 by_cases b:yq f r=0
 ·have l:z8 false r=0:=by
   unfold yq at b
   split at b
   ·exact b
   ·cases b
  have v:=of_decide_eq_true (zv.1 l).1;rw [if_pos b,b];by_cases m:r.kind=1
  ·have j:Zf r f=yB (yC r f r.ps.length):=(by rw [Zf,if_pos m]);rw [j];exact So 102 (fun args w=>by go_simp) _ w r h c g d f i b (Sv _ _ 102 0 (by rw [m];rfl)) (fun w' a=>Iw w' r (h.later a) l c g d f (i.later a))
  by_cases n:r.kind=2
  ·have j:Zf r f=P5 r f:=(by rw [Zf,if_neg m,if_pos n]);rw [j];exact So 103 (fun args w=>by go_simp) _ w r h c g d f i b (Sv _ _ 103 1 (by rw [n];rfl)) (fun w' a=>Gs w' r (h.later a) l c g d f (i.later a))
  by_cases s:r.kind=3
  ·have j:Zf r f=yB (ye r f r.ps.length):=(by rw [Zf,if_neg m,if_neg n,if_pos s]);rw [j];exact So 104 (fun args w=>by go_simp) _ w r h c g d f i b (Sv _ _ 104 2 (by rw [s];rfl)) (fun w' a=>Np w' r (h.later a) l c g d f (i.later a))
  ·have u:r.kind=4:=(by omega);have j:Zf r f=Yu r f:=(by rw [Zf,if_neg m,if_neg n,if_neg s]);rw [j];exact So 105 (fun args w=>by go_simp) _ w r h c g d f i b (Sv _ _ 105 3 (by rw [u];rfl)) (fun w' a=>JG w' r (h.later a) l c g d f (i.later a))
 ·rw [if_neg b];obtain ⟨x,q⟩:=qA (yq f r);have p:=zh ((Below.refl w.heap.size w).alloc (Nat.le_refl _) (.cells (zR r) 24));have k:=Ve _ r (h.later p.o) c g d f (i.later p.o);rw [q] at k b;rw [q];have y:(x != 0)=true:=by simp [b]
  have k:=zh k;clear b q h i;go_enter Tryz.func24,Tryz.ntmps24;go_wp2_with fail
  refine k.o.mono ?_;rintro e z ⟨rfl,a⟩;have t:=zh (za p.o a);clear a k;go_wp2;go_ret3
  exact ⟨none,0,0,rfl,Tr _ _,t.o⟩
theorem Le {r:Rq} (d:z8 false r=0) (v:r.kind=3) {f bs:zd} {fm:Int} (s:zW f) (h:ye r f r.ps.length=some (fm,bs)):meets r bs=true/\Xl f r bs=true:=by
 obtain ⟨T,o,B,p,b⟩:=NF h;have C:=xA d;have c:∀ k,k<bs.length->T k<=rN bs k/\rN bs k+zp r.ps k<=r.un/\∀ u:Nat,rN bs k<=u->(u:Int)<rN bs k+zp r.ps k->rN r.ps k<=zn f u:=fun k a=>by
  obtain ⟨e,g,n,A⟩:=b k (by omega);obtain ⟨_,F,t,E,x,G,j,_⟩:=YX d (by omega) g;rw [n,x];exact ⟨by omega,j.1,fun u D w=>j.2 u (by omega) w⟩
 have q:∀ k,k<=bs.length->r.fr<=T k:=by
  intro k
  induction k with
  | zero=>intro _;rw [o];exact Int.le_refl _
  | succ k ih =>
   intro a;have l:=ih (by omega);have m:=c k (by omega);have y:=(b k (by omega)).2.2.2;have z:=yh d (k:=k) (by omega);omega
 have i:∀ k,k+1<bs.length->rN bs k+zp r.ps k<=rN bs (k+1):=fun k a=>by
  have l:=(b k (by omega)).2.2.2;have m:=(c (k+1) a).1;omega
 refine Pg d (by omega) s p (fun k a=>(b k (by omega)).1) (fun k a=>⟨by have:=q k (by omega);have:=(c k a).1;omega,(c k a).2.1⟩) (fun k a=>?_) i (fun k a=>(c k a).2.2);have e:=(b k (by omega)).1;have g:=(b (k+1) (by omega)).1;rw [x9,if_pos v,decide_eq_true (show zp bs k<zp bs (k+1) by omega),Bool.true_and,decide_eq_true_eq,Z6,(Yr (r:=r) (by omega) e).2.1];exact i k a
theorem I3 {r:Rq} (c:z8 false r=0) (v:r.kind=4) {f bs:zd} {t fm:Int} (w:r.fr<=t) (s:zW f) (h:yr r f t r.ps.length=some (fm,bs)):meets r bs=true/\Xl f r bs=true:=by
 obtain ⟨T,o,D,p,b⟩:=I2 h;have E:=xA c;have i:∀ k,k<bs.length->rN bs k+zp r.ps k<=r.un/\∀ u:Nat,rN bs k<=u->(u:Int)<rN bs k+zp r.ps k->rN r.ps k<=zn f u:=fun k a=>by
  obtain ⟨d,e,m,n,C⟩:=b k (by omega);obtain ⟨_,F,t,H,y,I,j,_⟩:=YX c (by omega) e;rw [m,<-n,y];exact ⟨j.1,fun u G x=>j.2 u (by omega) x⟩
 have q:∀ k,k<=bs.length->r.fr<=T k:=by
  intro k
  induction k with
  | zero=>intro _;rw [o];exact w
  | succ k ih =>
   intro a;have l:=ih (by omega);have A:=(b k (by omega));have B:=yh c (k:=k) (by omega);omega
 have g:∀ k,k+1<bs.length->rN bs (k+1)=rN bs k+zp r.ps k:=fun k a=>by
  have l:=(b k (by omega)).2.2.2.2;have z:=(b (k+1) (by omega)).2.2.1;omega
 refine Pg c (by omega) s p (fun k a=>(b k (by omega)).1) (fun k a=>⟨by have:=q k (by omega);have:=(b k (by omega)).2.2.1;omega,(i k a).1⟩) (fun k a=>?_) (fun k a=>by have:=g k a;omega) (fun k a=>(i k a).2);have d:=(b k (by omega)).1;have e:=(b (k+1) (by omega)).1;rw [x9,if_neg (by omega),if_pos v,decide_eq_true (show zp bs k<zp bs (k+1) by omega),Bool.true_and,decide_eq_true_eq,Z6,(Yr (r:=r) (by omega) d).2.1];exact g k a
theorem IR {r:Rq} (a:z8 false r=0) (q:r.kind=2) {f:zd} {k:Nat} (s:k<r.ps.length) (h:(yj r f r.fr k).2.1=true):meets r [((k:Int),(yj r f r.fr k).1)]=true/\Xl f r [((k:Int),(yj r f r.fr k).1)]=true:=by
 obtain ⟨o,F,t,y,w,z,m,_⟩:=YX a s h;rw [w];have c:zp [((k:Int),(t:Int))] 0=k:=rfl;have e:rN [((k:Int),(t:Int))] 0=t:=rfl;have x:=xA a;have g:xt r [((k:Int),(t:Int))] 0=true:=by rw [xt,c];simp only [yW,decide_eq_true_eq];omega
 have j:lenOf r [((k:Int),(t:Int))] 0=zp r.ps k:=by rw [lenOf,c,Int.toNat_natCast]
 have n:RC r [((k:Int),(t:Int))] 0=rN r.ps k:=by rw [RC,c,Int.toNat_natCast]
 have l:xF r [((k:Int),(t:Int))] 0=true:=by
  have:=m.1;rw [xF,j,e,decide_eq_true_eq];omega
 refine ⟨yk.2 ⟨a,by rw [xu,if_pos q];rfl,fun i p=>?_⟩,?_⟩
 ·obtain rfl:i=0:=by simp at p;omega
  rw [xD,g,l];rfl
 have:=VB (f:=f) (r:=r) (b:=[((k:Int),(t:Int))]) (k:=0) rfl o (Sp a g l) (fun u v d=>by
  rw [n];rw [e] at v d;rw [j] at d;exact m.2 u (by omega) d)
 show (xz f r [((k:Int),(t:Int))] 1).isSome=true;rw [this];rfl
theorem Td {r:Rq} {f b:zd} (c:yq f r=0) (h:Zf r f=(b,true)):meets r b=true/\Xl f r b=true:=by
 unfold yq at c;by_cases j:xe f=true
 ·rw [if_pos j] at c;have e:=LO j;have q:=of_decide_eq_true (zv.1 c).1;unfold Zf at h;by_cases l:r.kind=1
  ·rw [if_pos l] at h;cases a:yC r f r.ps.length with
   | none=>rw [a] at h;cases h
   | some X =>
    rw [a] at h;obtain ⟨g,bs⟩:=X;injection h with h _;subst h;exact Kv c l e a
  rw [if_neg l] at h;by_cases m:r.kind=2
  ·rw [if_pos m,P5] at h;cases a:zw (fun k=>(yj r f r.fr k).2.1) 0 r.ps.length with
   | none=>rw [a] at h;cases h
   | some k =>
    rw [a] at h;obtain ⟨o,p,d,_⟩:=yz a;injection h with h _;subst h;exact IR c m (by omega) d
  rw [if_neg m] at h;by_cases n:r.kind=3
  ·rw [if_pos n] at h;cases a:ye r f r.ps.length with
   | none=>rw [a] at h;cases h
   | some X =>
    rw [a] at h;obtain ⟨g,bs⟩:=X;injection h with h _;subst h;exact Le c n e a
  rw [if_neg n,Yu] at h;have s:=xA c;cases a:zw (fun t=>(yr r f t r.ps.length).isSome) r.fr.toNat (r.un.toNat-r.fr.toNat) with
  | none=>rw [a] at h;cases h
  | some t =>
   rw [a] at h;obtain ⟨o,p,d,_⟩:=yz a;cases i:yr r f t r.ps.length with
   | none=>rw [i] at d;cases d
   | some X =>
    obtain ⟨g,bs⟩:=X;simp only [i] at h;injection h with h _;subst h;exact I3 c (by omega) (by omega) e i
 rw [if_neg j] at c;cases c
end Go.Proofs.YtckpdfkobdgjeaaGreatDoor
