/- Several texts in one: ReqA, ReqB, ReqC, ReqD, ReqE, ReqM, ReqF, ReqG, ReqH. -/
import Derived.Test.YtckpdfkobdgjeaaGreatDoorJTreeAll
import Derived.Deep.RegionHeld3
import Derived.Test.YtckpdfkobdgjeaaGreatDoorJRunsAll
namespace Go.Proofs.YtckpdfkobdgjeaaGreatDoor
set_option maxHeartbeats 4000000
open Go.RowKit
set_option linter.unusedSectionVars false
variable [Inhabited Mk]
def zQ (p:Nat->Bool):Nat->Bool
 | 0=>true
 | k+1=>zQ p k&&p k
theorem yO {p:Nat->Bool} {k:Nat} (h:p k=false):∀ n,k<n->zQ p n=false
 | 0,hn=>by omega
 | n+1,hn=>by
  by_cases e:k=n
  ·subst e;simp [zQ,h]
  rw [zQ,yO h n (by omega)];rfl
theorem xv {p:Nat->Bool}:∀ {n:Nat},zQ p n=true↔∀ k,k<n->p k=true
 | 0=>by simp [zQ]
 | n+1=>by
  simp only [zQ,Bool.and_eq_true,xv (n:=n)]
  constructor
  ·rintro ⟨a,b⟩ k c;by_cases e:k=n
   ·subst e;exact b
   exact a k (by omega)
  intro h;exact ⟨fun k c=>h k (by omega),h n (by omega)⟩
structure Rq where
 queue:Int
 fr:Int
 un:Int
 kind:Int
 pa:Option Addr
 pn:Nat
 pc:Nat
 ps:zd
abbrev zR (r:Rq):Array Value:=#[.int .i64 r.queue,.int .i64 r.fr,.int .i64 r.un,.int .i64 r.kind,.slice r.pa r.pn r.pc]
def zH (w:World) (r:Rq):Prop:=RunsIn w r.pa r.pn r.pc r.ps
theorem zH.later {w w':World} {r:Rq} (h:zH w r) (a:Below w.heap.size w w'):zH w' r:=RunsIn.later h a
def xI (ps:zd) (k:Nat):Bool:=yW (zp ps k) 1 24&&yW (rN ps k) 1 50
def Xo (ps:zd):Bool:=zQ (xI ps) ps.length
def yJ (r:Rq):Bool:=Xw r.fr r.un&&Xo r.ps
def z8 (miss:Bool) (r:Rq):Int :=
 if yW r.kind 1 4=true then (if yW r.ps.length 1 3=true then (if miss=true then 6 else (if yJ r=true then 0 else 3)) else 2) else 7
theorem Un (w:World) (a b:Int) :
 zC 183 #[.agg #[zI a,zI b]] w fun e w'=>e=.returned (.bool (!(yW a 1 24&&yW b 1 50)))/\Below w.heap.size w w':=by
 go_enter Tryz.func183,Tryz.ntmps183;go_wp2
 all_goals
  go_ret;refine ⟨zm ?_,zr _ _⟩;rw [Bool.eq_iff_iff];simp [yW];try omega
theorem PG (w:World) (b u n p:Nat) (l:zd) (h:RunsIn w (zO b u) n p l) (x:0<n) :
 zC 194 #[.slice (zO b u) n p,.func (.func 183) #[] #[]] w fun e w'=>∃ r:Int,e=.returned (zI r)/\(decide (0<=r))=(!zQ (xI l) n)/\Below w.heap.size w w':=by
 have z:=zh h.len;have E:=h.le;have C:=h.capb;obtain ⟨A,G,e,t⟩:=h.cells x;cases e
 have m:=zh t;clear t;go_enter Tryz.func194,Tryz.ntmps194;go_wp2;go_loopw [5,8] (fun _ f wr=>∃ k:Nat,f=zI k/\k<=n/\zQ (xI l) k=true/\zL w wr) (fun _ f _=>n-(intOf f).toNat)
 case atStart=>exact ⟨0,rfl,by omega,rfl,Below.refl _ _⟩
 case round =>
  obtain ⟨j,rfl,D,q,s⟩:=hrel;have i:=zh q;have a:=zh s;clear q s;by_cases d:j<n
  ·have F:(j:Int)<n:=(by omega);have B:=cell_later a.o (m.o j d).1;have c1:=cell_later a.o (m.o j d).2;cases g:xI l j with
   | false =>
    go_wp2_with fail
    refine (Un wr (zp l j) (rN l j)).mono ?_;rintro e y ⟨rfl,c⟩;rw [show (yW (zp l j) 1 24&&yW (rN l j) 1 50)=false from g];go_wp2;go_ret;exact ⟨_,rfl,by rw [yO g n d];simp,za a.o c⟩
   | true =>
    go_wp2_with fail
    refine (Un wr (zp l j) (rN l j)).mono ?_;rintro e y ⟨rfl,c⟩;have v:=zh c;clear c;rw [show (yW (zp l j) 1 24&&yW (rN l j) 1 50)=true from g];go_wp2;go_roundw
    case rel=>exact ⟨j+1,by go_num,by omega,by rw [zQ,i.o,g];rfl,za a.o v.o⟩
    case measure=>simp [intOf];omega
  obtain rfl:j=n:=by omega
  go_wp2;go_ret;exact ⟨_,rfl,by rw [i.o];rfl,a.o⟩
theorem Sz (w:World) (a:Option Addr) (n c:Nat) (l:zd) (h:RunsIn w a n c l) (d:0<n) :
 zC 182 #[.slice a n c,.func (.func 183) #[] #[]] w fun e w'=>e=.returned (.bool (!zQ (xI l) n))/\Below w.heap.size w w':=by
 obtain ⟨b,j,rfl,_⟩:=h.cells d;go_enter Tryz.func182,Tryz.ntmps182;go_wp2_with fail
 refine (PG w b j n c l h d).mono ?_;rintro e k ⟨r,rfl,f,i⟩;have g:=zh f;clear f;go_wp2;go_ret;exact ⟨zm g.o,i⟩
theorem IP (q:Int) (w:World):zC 167 #[zI q] w fun e w'=>e=.returned (.bool false)/\w'=w:=by
 go_enter Tryz.func167,Tryz.ntmps167;go_wp2;go_ret;exact ⟨rfl,rfl⟩
def wV (n:Nat) (q:Int):Bool:=!yW q 0 ((n:Int)-1)
theorem Nz (q:Int) (w:World) (B:Nat) (a:Option Addr) (n b:Nat) (_hn:n<=b) (_hcap:b<=9223372036854775807) (h:w.cell? (zA B 0)=some (.slice a n b)) :
 zC 154 #[zI q,.pointer (zO B 0)] w fun e w'=>e=.returned (.bool (wV n q))/\w'=w:=by
 go_enter Tryz.func154,Tryz.ntmps154;go_wp2
 all_goals
  go_ret;refine ⟨zm ?_,rfl⟩;rw [Bool.eq_iff_iff];simp [wV,yW];try omega
theorem ML {m:Bool} {r:Rq} (h:¬(1<=r.kind/\r.kind<=4)):z8 m r=7:=by
 have:yW r.kind 1 4=false:=by rw [yW];exact decide_eq_false h
 simp [z8,this]
theorem MK {m:Bool} {r:Rq} (c:1<=r.kind/\r.kind<=4) (h:¬((1:Int)<=r.ps.length/\(r.ps.length:Int)<=3)):z8 m r=2:=by
 have a:yW r.kind 1 4=true:=by rw [yW];exact decide_eq_true c
 have b:yW r.ps.length 1 3=false:=by rw [yW];exact decide_eq_false h
 simp [z8,a,b]
theorem Ga {m:Bool} {r:Rq} (c:1<=r.kind/\r.kind<=4) (d:(1:Int)<=r.ps.length/\(r.ps.length:Int)<=3):z8 m r=if m=true then 6 else (if yJ r=true then 0 else 3):=by
 have a:yW r.kind 1 4=true:=by rw [yW];exact decide_eq_true c
 have b:yW r.ps.length 1 3=true:=by rw [yW];exact decide_eq_true d
 simp [z8,a,b]
theorem QY (c:Nat) (k:Array Value) (i:Bool) (H:∀ (args:Array Value) (w:World),(callFunc c args).run Tryz.prog w=.ok (.enter c args) w) (w:World) (r:Rq) (h:zH w r)
 (m:∀ w',Below w.heap.size w w'->zC c (#[zI r.queue]++k) w' fun e x=>e=.returned (.bool i)/\x=w') :
 zC 153 #[.agg #[zI r.queue,zI r.fr,zI r.un,zI r.kind,.slice r.pa r.pn r.pc],.func (.func c) #[] k] w fun e w'=>e=.returned (zI (z8 i r))/\Below w.heap.size w w':=by
 have hn:=h.len;have G:=h.capb;have I:=h.le;have f:=zh (m _ ((Below.refl _ _).alloc (Nat.le_refl _) (.cells (zR r) 24)));clear m;by_cases y:r.kind<1
 ·rw [ML (by omega)];clear hn;go_enter Tryz.func153,Tryz.ntmps153;go_wp2;go_ret;exact ⟨rfl,zr _ _⟩
 by_cases z:4<r.kind
 ·rw [ML (by omega)];clear hn;go_enter Tryz.func153,Tryz.ntmps153;go_wp2;go_ret;exact ⟨rfl,zr _ _⟩
 by_cases A:(r.pn:Int)<1
 ·rw [MK (by omega) (by omega)];clear hn;go_enter Tryz.func153,Tryz.ntmps153;go_wp2;go_ret;exact ⟨rfl,zr _ _⟩
 by_cases B:(3:Int)<r.pn
 ·rw [MK (by omega) (by omega)];clear hn;go_enter Tryz.func153,Tryz.ntmps153;go_wp2;go_ret;exact ⟨rfl,zr _ _⟩
 have v:0<r.pn:=by omega
 rw [Ga (by omega) (by omega)];cases i with
 | true =>
  clear hn;go_enter Tryz.func153,Tryz.ntmps153;go_wp2_with fail
  refine f.o.mono ?_;rintro e b ⟨rfl,rfl⟩;go_wp2;go_ret;exact ⟨rfl,zr _ _⟩
 | false =>
  have q:=zh fun b (u:zL w b)=>Sz b r.pa r.pn r.pc r.ps (h.later u) v;have n:Zh (zQ (xI r.ps) r.pn=Xo r.ps):=by show zQ (xI r.ps) r.pn=Xo r.ps;rw [hn];rfl
  by_cases l:0<=r.fr/\r.fr<r.un/\r.un<=48
  ·have a:Xw r.fr r.un=true:=(by rw [Bool.eq_iff_iff];simp [Xw];omega);have d:Zh (yJ r=Xo r.ps):=(by show yJ r=Xo r.ps;rw [yJ,a];rfl);rw [d.o];obtain ⟨l,s,t⟩:=l;have C:¬r.fr<0:=(by omega);have D:¬r.un<=r.fr:=(by omega);have E:¬48<r.un:=(by omega);clear hn a;cases g:Xo r.ps
   all_goals
    go_enter Tryz.func153,Tryz.ntmps153;go_wp2_with fail
    refine f.o.mono ?_;rintro e b ⟨rfl,rfl⟩;go_wp2_with fail
    refine (q.o _ (zr _ _)).mono ?_;rintro e J ⟨rfl,j⟩;rw [n.o,g];have p:=zh (za ((Below.refl w.heap.size w).alloc (Nat.le_refl _) _) j);clear j;go_wp2;go_ret;exact ⟨yK (by rfl),p.o⟩
  have a:Xw r.fr r.un=false:=by rw [Bool.eq_false_iff];simp [Xw];omega
  have d:yJ r=false:=by rw [yJ,a];rfl
  rw [d];clear hn a d n;go_enter Tryz.func153,Tryz.ntmps153;go_wp2_with fail
  refine f.o.mono ?_;rintro e b ⟨rfl,rfl⟩;by_cases s:r.fr<0
  ·go_wp2;go_ret;exact ⟨rfl,zr _ _⟩
  by_cases t:r.un<=r.fr
  ·go_wp2;go_ret;exact ⟨rfl,zr _ _⟩
  have F:48<r.un:=by omega
  go_wp2;go_ret;exact ⟨rfl,zr _ _⟩
def yI (l:QL) (r:Rq):Int:=if z9 l=0 then z8 (wV l.length r.queue) r else z9 l
theorem Ty (w:World) (r:Rq) (h:zH w r) :
 zC 132 #[.agg #[zI r.queue,zI r.fr,zI r.un,zI r.kind,.slice r.pa r.pn r.pc]] w fun e w'=>e=.returned (.bool (decide (z8 false r≠0)))/\Below w.heap.size w w':=by
 have a:=zh ((Below.refl w.heap.size w).alloc (Nat.le_refl _) (.cells (zR r) 24));have f:=zh (QY 167 #[] false (fun args w=>by go_simp) _ r (h.later a.o) (fun w' _=>IP r.queue w'));go_enter Tryz.func132,Tryz.ntmps132;go_wp2_with fail
 refine f.o.mono ?_;rintro e g ⟨rfl,b⟩;have d:=zh (za a.o b);clear b a;obtain ⟨x,c⟩:=qA (z8 false r);rw [c];go_wp2;go_ret;exact ⟨zm (by subst c;rw [Bool.eq_iff_iff];simp),d.o⟩
theorem WD (w:World) (a:Option Addr) (n c:Nat) (l:QL) (j:QsIn w a n c l) (r:Rq) (h:zH w r) :
 zC 101 #[.slice a n c,.agg #[zI r.queue,zI r.fr,zI r.un,zI r.kind,.slice r.pa r.pn r.pc]] w fun e w'=>e=.returned (zI (yI l r))/\Below w.heap.size w w':=by
 have B:=j.le;have A:=j.capb;have v:=zh j.len;have k:=zh (((Below.refl w.heap.size w).alloc (Nat.le_refl _) (.cells #[.slice a n c] 37)).alloc (by simp) (.cells (zR r) 24));have m:=zh (wF _ a n c l (j.later k.o));have s:((w.alloc (.cells #[.slice a n c] 37)).alloc (.cells (zR r) 24)).cell? (zA w.heap.size 0)=some (.slice a n c):=by go_simp
 have u:=zh s;clear s;by_cases g:z9 l=0
 ·have p:yI l r=z8 (wV n r.queue) r:=by rw [yI,if_pos g,v.o]
  rw [p];go_enter Tryz.func101,Tryz.ntmps101;go_wp2_with fail
  refine m.o.mono ?_;rintro e d ⟨rfl,b⟩;rw [g];have i:=zh (za k.o b);have y:=cell_later b u.o;have c1:d.cell? (zA (w.heap.size+1) 0)=some (zI r.queue):=cell_later b (by go_simp);have c2:d.cell? (zA (w.heap.size+1) 1)=some (zI r.fr):=cell_later b (by go_simp);have c3:d.cell? (zA (w.heap.size+1) 2)=some (zI r.un):=cell_later b (by go_simp);have c4:d.cell? (zA (w.heap.size+1) 3)=some (zI r.kind):=cell_later b (by go_simp);have c5:d.cell? (zA (w.heap.size+1) 4)=some (.slice r.pa r.pn r.pc):=cell_later b (by go_simp);clear b;go_wp2_with fail
  refine (QY 154 #[.pointer (zO w.heap.size 0)] (wV n r.queue) (fun args w=>by go_simp) d r (h.later i.o) (fun w' z=>Nz r.queue w' w.heap.size a n c B A (cell_later z y))).mono ?_;rintro e C ⟨rfl,q⟩;have t:=zh (za i.o q);clear q;obtain ⟨x,f⟩:=qA (z8 (wV n r.queue) r);rw [f];go_wp2;go_ret;exact ⟨yK f.symm,t.o⟩
 ·have p:yI l r=z9 l:=by rw [yI,if_neg g]
  rw [p];obtain ⟨x,f⟩:=qA (z9 l);rw [f] at g m;rw [f];go_enter Tryz.func101,Tryz.ntmps101;go_wp2_with fail
  refine m.o.mono ?_;rintro e d ⟨rfl,b⟩;have i:=zh (za k.o b);clear b;go_wp2;go_ret;exact ⟨rfl,i.o⟩
theorem zv {r:Rq}:z8 false r=0↔yW r.kind 1 4=true/\yW r.ps.length 1 3=true/\yJ r=true:=by
 unfold z8
 constructor
 ·intro h
  split at h <;> rename_i a
  ·split at h <;> rename_i b
   ·simp at h;exact ⟨a,b,by cases g:yJ r <;> simp [g] at h ⊢⟩
   simp at h
  simp at h
 rintro ⟨a,b,c⟩;simp [a,b,c]
def xt (r:Rq) (b:zd) (i:Nat):Bool:=yW (zp b i) 0 ((r.ps.length:Int)-1)
def lenOf (r:Rq) (b:zd) (i:Nat):Int:=zp r.ps (zp b i).toNat
def Z6 (r:Rq) (b:zd) (i:Nat):Int:=rN b i+lenOf r b i
def xu (r:Rq):Int:=if r.kind=2 then 1 else r.ps.length
def x9 (r:Rq) (b:zd) (i j:Nat):Bool:=decide (zp b i<zp b j)&&(if r.kind=3 then decide (Z6 r b i<=rN b j) else if r.kind=4 then decide (rN b j=Z6 r b i) else true)
def xF (r:Rq) (b:zd) (i:Nat):Bool:=decide (r.fr<=rN b i/\rN b i<=r.un-lenOf r b i)
def xD (r:Rq) (b:zd) (i:Nat):Bool:=(xt r b i&&xF r b i)&&(decide (i=0)||x9 r b (i-1) i)
def meets (r:Rq) (b:zd):Bool:=decide (z8 false r=0)&&(decide ((b.length:Int)=xu r)&&zQ (xD r b) b.length)
theorem TW (w:World) (r:Rq) (h:zH w r) (p t:Int) :
 zC 135 #[.agg #[zI r.queue,zI r.fr,zI r.un,zI r.kind,.slice r.pa r.pn r.pc],.agg #[zI p,zI t]] w fun e w'=>e=.returned (.bool (!yW p 0 ((r.ps.length:Int)-1)))/\Below w.heap.size w w':=by
 have hn:=h.len;have a:=h.capb;have b:=h.le;rw [<-hn];clear hn;go_enter Tryz.func135,Tryz.ntmps135;go_wp2
 all_goals
  go_ret;refine ⟨zm ?_,(zr _ _).alloc (by simp) _⟩;rw [Bool.eq_iff_iff];simp [yW];try omega
theorem NJ (w:World) (r:Rq) (h:zH w r) (p t:Int) (k:0<=p/\p<r.ps.length) (g:0<=zp r.ps p.toNat/\zp r.ps p.toNat<=24) (n:0<=t/\t<=48) :
 Calls Tryz.prog 136 #[.agg #[zI r.queue,zI r.fr,zI r.un,zI r.kind,.slice r.pa r.pn r.pc],.agg #[zI p,zI t]] w fun e w'=>e=.returned (zI (t+zp r.ps p.toNat))/\Below w.heap.size w w':=by
 have hn:=h.len;have q:=h.capb;have s:=h.le;obtain ⟨b,y,c,i⟩:=h.cells (by omega);obtain ⟨l,u⟩:=k;obtain ⟨P,rfl⟩:=Int.eq_ofNat_of_zero_le l;rw [Int.toNat_natCast] at g ⊢;have j:P<r.pn:=by omega
 have m:(P:Int)<r.pn:=by omega
 have a:=zh (((Below.refl w.heap.size w).alloc (Nat.le_refl _) (.cells #[zI r.queue,zI r.fr,zI r.un,zI r.kind,.slice r.pa r.pn r.pc] 24)).alloc (by simp) (.cells #[zI P,zI t] 62));have f:=cell_later a.o (i P j).1;rw [c] at f a;rw [c];obtain ⟨x,d⟩:=qA (zp r.ps P);rw [d] at f g;rw [d];have v:IntKind.i64.wrap (t+x)=t+x:=by rw [IntKind.wrap_i64];omega
 clear i hn d c;go_enter Tryz.func136,Tryz.ntmps136;go_wp2;go_quiet (fail)
 go_wp2;go_ret;exact ⟨rfl,below_drewN a.o _⟩
theorem Qe (w:World) (r:Rq) (h:zH w r) :
 zC 186 #[.agg #[zI r.queue,zI r.fr,zI r.un,zI r.kind,.slice r.pa r.pn r.pc]] w fun e w'=>e=.returned (zI (xu r))/\Below w.heap.size w w':=by
 have hn:=h.len;have b:=h.capb;have c:=h.le;by_cases g:r.kind=2
 ·have a:xu r=1:=by rw [xu,if_pos g]
  rw [a];clear hn;go_enter Tryz.func186,Tryz.ntmps186;go_wp2;go_ret;exact ⟨rfl,zr _ _⟩
 ·have a:xu r=r.pn:=by rw [xu,if_neg g,hn]
  rw [a];clear hn;go_enter Tryz.func186,Tryz.ntmps186;go_wp2;go_ret;exact ⟨rfl,zr _ _⟩
def wa (r:Rq) (p0 t0 p1 t1:Int):Bool:=decide (p0<p1)&&(if r.kind=3 then decide (t0+zp r.ps p0.toNat<=t1) else if r.kind=4 then decide (t1=t0+zp r.ps p0.toNat) else true)
theorem Nm (w:World) (r:Rq) (h:zH w r) (a c i g:Int) (z:0<=a/\a<r.ps.length) (y:0<=zp r.ps a.toNat/\zp r.ps a.toNat<=24) (A:0<=c/\c<=48) :
 Calls Tryz.prog 187 #[.agg #[zI r.queue,zI r.fr,zI r.un,zI r.kind,.slice r.pa r.pn r.pc],.agg #[zI a,zI c],.agg #[zI i,zI g]] w fun e w'=>e=.returned (.bool (wa r a c i g))/\Below w.heap.size w w':=by
 have j:=zh ((((Below.refl w.heap.size w).alloc (Nat.le_refl _) (.cells #[zI r.queue,zI r.fr,zI r.un,zI r.kind,.slice r.pa r.pn r.pc] 24)).alloc (by simp) (.cells #[zI a,zI c] 62)).alloc (by simp;omega) (.cells #[zI i,zI g] 62));have q:=zh fun B (D:zL w B)=>NJ B r (h.later D) a c z y A;have E:=zh y;have F:=zh z;clear z y A;by_cases G:i<=a
 ·have n:wa r a c i g=false:=by simp [wa];omega
  rw [n];go_enter Tryz.func187,Tryz.ntmps187;go_wp2;go_ret;exact ⟨rfl,j.o⟩
 by_cases s:r.kind=3
 ·have n:Zh (wa r a c i g=decide (c+zp r.ps a.toNat<=g)):=by
   show wa r a c i g=decide (c+zp r.ps a.toNat<=g);rw [wa,if_pos s,decide_eq_true (show a<i by omega)];rfl
  rw [n.o];rw [s] at q j;go_enter Tryz.func187,Tryz.ntmps187;go_wp2_with fail
  obtain ⟨f,b⟩:=qB (((w.alloc (.cells #[zI r.queue,zI r.fr,zI r.un,zI 3,.slice r.pa r.pn r.pc] 24)).alloc (.cells #[zI a,zI c] 62)).alloc (.cells #[zI i,zI g] 62));rw [<-b] at j;rw [<-b];have k:f.cell? ⟨w.heap.size,0,none⟩=some (zI r.queue):=by rw [b];go_simp
  have c1:f.cell? ⟨w.heap.size,1,none⟩=some (zI r.fr):=by rw [b];go_simp
  have c2:f.cell? ⟨w.heap.size,2,none⟩=some (zI r.un):=by rw [b];go_simp
  have c3:f.cell? ⟨w.heap.size,3,none⟩=some (zI 3):=by rw [b];go_simp
  have c4:f.cell? ⟨w.heap.size,4,none⟩=some (.slice r.pa r.pn r.pc):=by rw [b];go_simp
  have c5:f.cell? ⟨w.heap.size+1,0,none⟩=some (zI a):=by rw [b];go_simp
  have l:f.cell? ⟨w.heap.size+1,1,none⟩=some (zI c):=by rw [b];go_simp
  have m:f.cell? ⟨w.heap.size+1+1,1,none⟩=some (zI g):=by rw [b];go_simp
  clear b;obtain ⟨x,p⟩:=qA (zp r.ps a.toNat);rw [p] at q;go_region_held3 (fun X=>zL w X/\X.cell? ⟨w.heap.size,0,none⟩=some (zI r.queue)/\X.cell? ⟨w.heap.size,1,none⟩=some (zI r.fr)/\X.cell? ⟨w.heap.size,2,none⟩=some (zI r.un)/\X.cell? ⟨w.heap.size,3,none⟩=some (zI 3)/\X.cell? ⟨w.heap.size,4,none⟩=some (.slice r.pa r.pn r.pc)/\X.cell? ⟨w.heap.size+1,0,none⟩=some (zI a)/\X.cell? ⟨w.heap.size+1,1,none⟩=some (zI c)/\X.cell? ⟨w.heap.size+1+1,1,none⟩=some (zI g))
   (first | exact ⟨below_drewN j.o 1,k,c1,c2,c3,c4,c5,l,m⟩ | exact ⟨za (below_drewN j.o 1) d,cell_later d k,cell_later d c1,cell_later d c2,cell_later d c3,cell_later d c4,cell_later d c5,cell_later d l,cell_later d m⟩)
   ((go_at_call 136;refine (q.o _ (below_drewN j.o 1)).mono ?_;rintro e w' ⟨rfl,d⟩))
  rename_i hH;have t:=zh hH.1;have u:=zh p;clear hH d k c1 c2 c3 c4 c5 l m p;go_wp2;go_ret;exact ⟨zm (by have:=u.o;subst this;rw [Bool.eq_iff_iff];try simp),t.o⟩
 by_cases v:r.kind=4
 ·have C:=s;have s:=v;have n:Zh (wa r a c i g=decide (g=c+zp r.ps a.toNat)):=by
   show wa r a c i g=decide (g=c+zp r.ps a.toNat);rw [wa,if_neg C,if_pos v,decide_eq_true (show a<i by omega)];rfl
  rw [n.o];rw [s] at q j;go_enter Tryz.func187,Tryz.ntmps187;go_wp2_with fail
  obtain ⟨f,b⟩:=qB (((w.alloc (.cells #[zI r.queue,zI r.fr,zI r.un,zI 4,.slice r.pa r.pn r.pc] 24)).alloc (.cells #[zI a,zI c] 62)).alloc (.cells #[zI i,zI g] 62));rw [<-b] at j;rw [<-b];have k:f.cell? ⟨w.heap.size,0,none⟩=some (zI r.queue):=by rw [b];go_simp
  have c1:f.cell? ⟨w.heap.size,1,none⟩=some (zI r.fr):=by rw [b];go_simp
  have c2:f.cell? ⟨w.heap.size,2,none⟩=some (zI r.un):=by rw [b];go_simp
  have c3:f.cell? ⟨w.heap.size,3,none⟩=some (zI 4):=by rw [b];go_simp
  have c4:f.cell? ⟨w.heap.size,4,none⟩=some (.slice r.pa r.pn r.pc):=by rw [b];go_simp
  have c5:f.cell? ⟨w.heap.size+1,0,none⟩=some (zI a):=by rw [b];go_simp
  have l:f.cell? ⟨w.heap.size+1,1,none⟩=some (zI c):=by rw [b];go_simp
  have m:f.cell? ⟨w.heap.size+1+1,1,none⟩=some (zI g):=by rw [b];go_simp
  clear b;obtain ⟨x,p⟩:=qA (zp r.ps a.toNat);rw [p] at q;go_region_held3 (fun X=>zL w X/\X.cell? ⟨w.heap.size,0,none⟩=some (zI r.queue)/\X.cell? ⟨w.heap.size,1,none⟩=some (zI r.fr)/\X.cell? ⟨w.heap.size,2,none⟩=some (zI r.un)/\X.cell? ⟨w.heap.size,3,none⟩=some (zI 4)/\X.cell? ⟨w.heap.size,4,none⟩=some (.slice r.pa r.pn r.pc)/\X.cell? ⟨w.heap.size+1,0,none⟩=some (zI a)/\X.cell? ⟨w.heap.size+1,1,none⟩=some (zI c)/\X.cell? ⟨w.heap.size+1+1,1,none⟩=some (zI g))
   (first | exact ⟨below_drewN j.o 1,k,c1,c2,c3,c4,c5,l,m⟩ | exact ⟨za (below_drewN j.o 1) d,cell_later d k,cell_later d c1,cell_later d c2,cell_later d c3,cell_later d c4,cell_later d c5,cell_later d l,cell_later d m⟩)
   ((go_at_call 136;refine (q.o _ (below_drewN j.o 1)).mono ?_;rintro e w' ⟨rfl,d⟩))
  rename_i hH;have t:=zh hH.1;have u:=zh p;clear hH d k c1 c2 c3 c4 c5 l m p;go_wp2;go_ret;exact ⟨zm (by have:=u.o;subst this;rw [Bool.eq_iff_iff];try simp),t.o⟩
 ·have n:wa r a c i g=true:=by
   rw [wa,if_neg s,if_neg v,decide_eq_true (show a<i by omega)];rfl
  rw [n];go_enter Tryz.func187,Tryz.ntmps187;go_wp2;go_ret;exact ⟨rfl,j.o⟩
theorem VC {r:Rq} {b:zd} {n j:Nat} (hn:Zh (n=b.length)) (a:j<n) (h:xD r b j=false):meets r b=false:=by
 rw [meets,<-hn.o,yO h n a];simp
theorem yh {r:Rq} {k:Nat} (h:z8 false r=0) (e:k<r.ps.length):1<=zp r.ps k/\zp r.ps k<=24/\1<=rN r.ps k/\rN r.ps k<=50:=by
 obtain ⟨f,g,b⟩:=zv.1 h;rw [yJ,Bool.and_eq_true] at b;have a:=xv.1 b.2 k e;rw [xI,Bool.and_eq_true] at a;have c:=of_decide_eq_true a.1;have d:=of_decide_eq_true a.2;exact ⟨c.1,c.2,d.1,d.2⟩
theorem xA {r:Rq} (h:z8 false r=0):0<=r.fr/\r.fr<r.un/\r.un<=48:=by
 obtain ⟨b,c,a⟩:=zv.1 h;rw [yJ,Bool.and_eq_true] at a;have:=a.1;simp [Xw] at this;omega
theorem Zi {r:Rq} {b:zd} {i:Nat} (h:xt r b i=true):0<=zp b i/\zp b i<r.ps.length:=by
 have:=of_decide_eq_true h;omega
theorem Xm {r:Rq} {b:zd} {i:Nat} (a:z8 false r=0) (h:xt r b i=true):1<=lenOf r b i/\lenOf r b i<=24:=by
 have c:=Zi h;have:=yh a (k:=(zp b i).toNat) (by omega);exact ⟨this.1,this.2.1⟩
theorem wm {r:Rq} {b:zd} {i:Nat} (h:xD r b i=true):xt r b i=true/\xF r b i=true/\(i=0\/x9 r b (i-1) i=true):=by
 simp [xD] at h;exact ⟨h.1.1,h.1.2,h.2⟩
theorem wR {r:Rq} {b:zd} {i:Nat} (h:xF r b i=true):r.fr<=rN b i/\rN b i<=r.un-lenOf r b i:=of_decide_eq_true h
theorem YK {P:Program} {j:Region.Mode} {b:Array Oper} {f:Exit->Act->World->Prop} {S:World->Prop} {i:Nat} {e:Oper} {d:Nat} {v:Value} {k:Nat} {g:Array Bool} {T:Array Value} {df:List Deferred} {w:World}
 (p:b[i]?=some e) (n:e.dst=some d) (r:Region.noSelect b=true) (o:Region.free j b g i=true) (q:(Region.ready j b g).contains i=true)
 (l:∀ c a w,f (.panic c) (a.put e.dst v) w->f (.panic c) a w) (s:Region.wanted e (yielded b T)=true) (t:∀ w,S w->(execOp (Act.eval ⟨T,df⟩) e).run P w=.ok (.value v) w) (m:S w)
 (h:wpAnyH P j b f S k (g.setIfInBounds i true) ⟨T.setIfInBounds d v,df⟩ w):wpAnyH P j b f S (k+1) g ⟨T,df⟩ w :=
 wpAnyH_take p r o q l (Or.inl ⟨s,t⟩) m (by rw [n];exact h)
theorem xT {P:Program} {g:Region.Mode} {b:Array Oper} {e:Exit->Act->World->Prop} {S:World->Prop} {i:Nat} {j:Oper} {d:Nat} {k:Nat} {f:Array Bool} {T:Array Value} {df:List Deferred} {w:World}
 (p:b[i]?=some j) (n:j.dst=some d) (r:Region.noSelect b=true) (o:Region.free g b f i=true) (q:(Region.ready g b f).contains i=true)
 (l:∀ c a w,e (.panic c) (a.put j.dst undef) w->e (.panic c) a w) (s:Region.wanted j (yielded b T)=false) (m:S w)
 (h:wpAnyH P g b e S k (f.setIfInBounds i true) ⟨T.setIfInBounds d undef,df⟩ w):wpAnyH P g b e S (k+1) f ⟨T,df⟩ w :=
 wpAnyH_take p r o q l (Or.inr ⟨s,rfl⟩) m (by rw [n];exact h)
theorem ZM {a w':World} (h:Below (a.drewN 1).heap.size (a.drewN 1) w'):Below a.heap.size a w':=za (yM ⟨1,rfl⟩) h
theorem Mp (w:World) (r:Rq) (h:zH w r) (M N G a0:Nat) (b:zd) (C:RunsIn w (zO M N) G a0 b) (ai:z8 false r=0) (aJ:(G:Int)=xu r) (bl:0<G) :
 zC 163 #[.agg #[zI r.queue,zI r.fr,zI r.un,zI r.kind,.slice r.pa r.pn r.pc],.slice (zO M N) G a0] w fun e w'=>e=.returned (.bool (meets r b))/\Below w.heap.size w w':=by
 have ad:=zh C.len;have bA:=C.le;have bw:=C.capb;have bm:0<r.pn:=by have:=of_decide_eq_true (zv.1 ai).2.1;have:=h.len;omega
 obtain ⟨s,u,aK,a7⟩:=h.cells bm;have aX:=zh a7;clear a7;have B:=zh ((Below.refl w.heap.size w).alloc (Nat.le_refl _) (.cells #[zI r.queue,zI r.fr,zI r.un,zI r.kind,.slice (zO s u) r.pn r.pc] 24));have ar:=zh fun d (C:zL w d)=>Ty d r (h.later C);have au:=zh fun d (C:zL w d)=>Qe d r (h.later C);have aC:=zh fun d (C:zL w d) p t=>TW d r (h.later C) p t;have aD:=zh fun d (C:zL w d) bn bp bo bq=>Nm d r (h.later C) bn bp bo bq;rw [aK] at ar au aC aD;rw [aK];have Q:Zh (∀ X:World,Below (w.alloc (.cells #[zI r.queue,zI r.fr,zI r.un,zI r.kind,.slice (zO s u) r.pn r.pc] 24)).heap.size (w.alloc (.cells #[zI r.queue,zI r.fr,zI r.un,zI r.kind,.slice (zO s u) r.pn r.pc] 24)) X->X.cell? (zA w.heap.size 0)=some (zI r.queue)/\X.cell? (zA w.heap.size 1)=some (zI r.fr)/\X.cell? (zA w.heap.size 2)=some (zI r.un)/\X.cell? (zA w.heap.size 3)=some (zI r.kind)/\X.cell? (zA w.heap.size 4)=some (.slice (zO s u) r.pn r.pc)) :=
  fun X I=>⟨cell_later I (by go_simp),cell_later I (by go_simp),cell_later I (by go_simp),cell_later I (by go_simp),cell_later I (by go_simp)⟩
 obtain ⟨bs,bI,e,a6⟩:=C.cells bl;cases e
 have aA:=zh a6;clear a6;have aY:=zh h.len;have bD:=h.le;have bC:=h.capb;have aB:=zh ai;have aZ:=zh (xA ai);have ba:=zh aJ;have a9:decide (z8 false r≠0)=false:=by rw [ai];rfl
 rw [a9] at ar;rw [<-aJ] at au;clear a9 ai aJ aK h C;go_enter Tryz.func163,Tryz.ntmps163;go_wp2_with fail
 refine (ar.out _ B.out).mono ?_;rintro e d ⟨rfl,I⟩;have aP:=zh (za B.out I);have aO:=zh I;obtain ⟨m,c1,c2,c3,c4⟩:=Q.out d I;clear I;go_wp2_with fail
 refine (au.out d aP.out).mono ?_;rintro e bJ ⟨rfl,aQ⟩;have ay:=zh (za aO.out aQ);clear aQ aP aO m c1 c2 c3 c4;go_wp2_with fail
 obtain ⟨W0,aH⟩:=qB (w.alloc (.cells #[zI r.queue,zI r.fr,zI r.un,zI r.kind,.slice (some ⟨s,u,none⟩) r.pn r.pc] 24));have bE:w.heap.size<W0.heap.size:=by rw [aH];simp
 rw [<-aH] at ay Q B;have an:Zh (∀ i,i<G->W0.cell? (zA M (N+i*2))=some (zI (zp b i))/\W0.cell? (zA M (N+i*2+1))=some (zI (rN b i))):=fun i av=>⟨cell_later B.out (aA.out i av).1,cell_later B.out (aA.out i av).2⟩;have bb:Zh (∀ i,i<r.pn->W0.cell? (zA s (u+i*2))=some (zI (zp r.ps i))):=fun i av=>cell_later B.out (aX.out i av).1;clear aA aX aH ar au;go_loopw [18] (fun aN wr=>∃ j:Nat,aN=zI j/\j<=G/\zQ (xD r b) j=true/\zL W0 wr) (fun aN _=>G-(intOf aN).toNat)
 case atStart=>exact ⟨0,rfl,by omega,rfl,ay.out⟩
 case round =>
  clear ay;obtain ⟨j,rfl,bx,a4,a5⟩:=hrel;have am:=zh a4;have ab:=zh a5;clear a4 a5;by_cases aa:j<G
  ·have bB:(j:Int)<G:=(by omega);have af:=cell_later ab.out (an.out j aa).1;have ag:=cell_later ab.out (an.out j aa).2;obtain ⟨R,aL⟩:∃ x,zp b j=x:=⟨_,rfl⟩;obtain ⟨l,aM⟩:∃ x,rN b j=x:=⟨_,rfl⟩;rw [aL] at af;rw [aM] at ag;have ap:=zh aL;have aq:=zh aM;clear aL aM;obtain ⟨A,E⟩:=qB (wr.alloc (.cells #[zI R,zI l] 62));have bF:wr.heap.size<A.heap.size:=(by rw [E];simp);have J:Zh (zL W0 A):=(by show zL W0 A;rw [E];exact ab.out.alloc ab.out.size _);have D:=zh (za B.out J.out);have ak:Zh (A.cell? (zA wr.heap.size 0)=some (zI R)):=(by show A.cell? (zA wr.heap.size 0)=some (zI R);rw [E];go_simp);have al:Zh (A.cell? (zA wr.heap.size 1)=some (zI l)):=(by show A.cell? (zA wr.heap.size 1)=some (zI l);rw [E];go_simp);cases g:yW R 0 ((r.ps.length:Int)-1) with
   | false =>
    have ae:Zh (∀ d,zL w d->zC 135 #[.agg #[zI r.queue,zI r.fr,zI r.un,zI r.kind,.slice (zO s u) r.pn r.pc],.agg #[zI R,zI l]] d fun e w'=>e=.returned (.bool true)/\zL d w'):=fun d O=>by have:=aC.out d O R l;rw [g] at this;exact this
    have U:=zh (VC ad aa (show xD r b j=false by rw [xD,xt,ap.out,g];rfl));go_wp2_with fail
    rw [<-E];clear E af ag;obtain ⟨m,c1,c2,c3,c4⟩:=Q.out A J.out;have n:=ak.out;have q:=al.out;refine wp_region_held_drew (S:=(fun X=>zL w X/\X.cell? (zA w.heap.size 0)=some (zI r.queue)/\X.cell? (zA w.heap.size 1)=some (zI r.fr)/\X.cell? (zA w.heap.size 2)=some (zI r.un)/\X.cell? (zA w.heap.size 3)=some (zI r.kind)/\X.cell? (zA w.heap.size 4)=some (.slice (zO s u) r.pn r.pc)/\X.cell? (zA wr.heap.size 0)=some (zI R)/\X.cell? (zA wr.heap.size 1)=some (zI l))) (by kernel_rfl) ⟨below_drewN D.out 1,m,c1,c2,c3,c4,n,q⟩ (fun c=>?_);refine YK (i:=0) (v:=.agg #[zI r.queue,zI r.fr,zI r.un,zI r.kind,.slice (zO s u) r.pn r.pc]) rfl rfl (by kernel_rfl) (by kernel_rfl) (by kernel_rfl) (fun _ _ _ h=>h) (by rfl) (fun w f=>by (try dsimp only at f);go_simp) c ?_;simp only [List.setIfInBounds_toArray,List.set_cons_zero,List.set_cons_succ];refine YK (i:=1) (v:=.agg #[zI R,zI l]) rfl rfl (by kernel_rfl) (by kernel_rfl) (by kernel_rfl) (fun _ _ _ h=>h) (by rfl) (fun w f=>by (try dsimp only at f);go_simp) c ?_;simp only [List.setIfInBounds_toArray,List.set_cons_zero,List.set_cons_succ];refine wpAnyH_ready (rs:=[2]) (by kernel_rfl) (by simp) (AllReadyH.cons (o:={ dst:=some 25,op:=Op.call { callee:=Callee.value (Operand.func 135),args:=#[Operand.tmp 23,Operand.tmp 24],argTypes:=#[24,62] },type:=4,pos:= "req.go:26",after:=#[{ on:=0,ground:=Ground.data },{ on:=1,ground:=Ground.data }],guard:=none }) rfl (fun bc ah=>?_) AllReadyH.nil);go_simp
    refine (ae.out _ (below_drewN D.out 1)).mono ?_;rintro e w' ⟨rfl,a⟩;go_simp
    refine ah.out _ _ ⟨za (below_drewN D.out 1) a,cell_later a m,cell_later a c1,cell_later a c2,cell_later a c3,cell_later a c4,cell_later a n,cell_later a q⟩ (fun c=>?_);clear ah;refine YK (i:=3) (v:=.bool true) rfl rfl (by kernel_rfl) (by kernel_rfl) (by kernel_rfl) (fun _ _ _ h=>h) (by rfl) (fun w f=>by (try dsimp only at f);go_simp) c ?_;simp only [List.setIfInBounds_toArray,List.set_cons_zero,List.set_cons_succ];refine xT (i:=4) rfl rfl (by kernel_rfl) (by kernel_rfl) (by kernel_rfl) (fun _ _ _ h=>h) (by rfl) c ?_;simp only [List.setIfInBounds_toArray,List.set_cons_zero,List.set_cons_succ];refine xT (i:=5) rfl rfl (by kernel_rfl) (by kernel_rfl) (by kernel_rfl) (fun _ _ _ h=>h) (by rfl) c ?_;simp only [List.setIfInBounds_toArray,List.set_cons_zero,List.set_cons_succ];refine xT (i:=6) rfl rfl (by kernel_rfl) (by kernel_rfl) (by kernel_rfl) (fun _ _ _ h=>h) (by rfl) c ?_;simp only [List.setIfInBounds_toArray,List.set_cons_zero,List.set_cons_succ];refine xT (i:=7) rfl rfl (by kernel_rfl) (by kernel_rfl) (by kernel_rfl) (fun _ _ _ h=>h) (by rfl) c ?_;simp only [List.setIfInBounds_toArray,List.set_cons_zero,List.set_cons_succ];refine xT (i:=8) rfl rfl (by kernel_rfl) (by kernel_rfl) (by kernel_rfl) (fun _ _ _ h=>h) (by rfl) c ?_;simp only [List.setIfInBounds_toArray,List.set_cons_zero,List.set_cons_succ];refine YK (i:=9) (v:=.bool true) rfl rfl (by kernel_rfl) (by kernel_rfl) (by kernel_rfl) (fun _ _ _ h=>h) (by rfl) (fun w f=>by (try dsimp only at f);go_simp) c ?_;simp only [List.setIfInBounds_toArray,List.set_cons_zero,List.set_cons_succ];refine YK (i:=10) (v:=.bool true) rfl rfl (by kernel_rfl) (by kernel_rfl) (by kernel_rfl) (fun _ _ _ h=>h) (by rfl) (fun w f=>by (try dsimp only at f);go_simp) c ?_;simp only [List.setIfInBounds_toArray,List.set_cons_zero,List.set_cons_succ];refine xT (i:=11) rfl rfl (by kernel_rfl) (by kernel_rfl) (by kernel_rfl) (fun _ _ _ h=>h) (by rfl) c ?_;simp only [List.setIfInBounds_toArray,List.set_cons_zero,List.set_cons_succ];refine xT (i:=12) rfl rfl (by kernel_rfl) (by kernel_rfl) (by kernel_rfl) (fun _ _ _ h=>h) (by rfl) c ?_;simp only [List.setIfInBounds_toArray,List.set_cons_zero,List.set_cons_succ];refine xT (i:=13) rfl rfl (by kernel_rfl) (by kernel_rfl) (by kernel_rfl) (fun _ _ _ h=>h) (by rfl) c ?_;simp only [List.setIfInBounds_toArray,List.set_cons_zero,List.set_cons_succ];refine xT (i:=14) rfl rfl (by kernel_rfl) (by kernel_rfl) (by kernel_rfl) (fun _ _ _ h=>h) (by rfl) c ?_;simp only [List.setIfInBounds_toArray,List.set_cons_zero,List.set_cons_succ];refine xT (i:=15) rfl rfl (by kernel_rfl) (by kernel_rfl) (by kernel_rfl) (fun _ _ _ h=>h) (by rfl) c ?_;simp only [List.setIfInBounds_toArray,List.set_cons_zero,List.set_cons_succ];refine xT (i:=16) rfl rfl (by kernel_rfl) (by kernel_rfl) (by kernel_rfl) (fun _ _ _ h=>h) (by rfl) c ?_;simp only [List.setIfInBounds_toArray,List.set_cons_zero,List.set_cons_succ];refine xT (i:=17) rfl rfl (by kernel_rfl) (by kernel_rfl) (by kernel_rfl) (fun _ _ _ h=>h) (by rfl) c ?_;simp only [List.setIfInBounds_toArray,List.set_cons_zero,List.set_cons_succ];refine xT (i:=18) rfl rfl (by kernel_rfl) (by kernel_rfl) (by kernel_rfl) (fun _ _ _ h=>h) (by rfl) c ?_;simp only [List.setIfInBounds_toArray,List.set_cons_zero,List.set_cons_succ];refine xT (i:=19) rfl rfl (by kernel_rfl) (by kernel_rfl) (by kernel_rfl) (fun _ _ _ h=>h) (by rfl) c ?_;simp only [List.setIfInBounds_toArray,List.set_cons_zero,List.set_cons_succ];refine xT (i:=20) rfl rfl (by kernel_rfl) (by kernel_rfl) (by kernel_rfl) (fun _ _ _ h=>h) (by rfl) c ?_;simp only [List.setIfInBounds_toArray,List.set_cons_zero,List.set_cons_succ];refine xT (i:=21) rfl rfl (by kernel_rfl) (by kernel_rfl) (by kernel_rfl) (fun _ _ _ h=>h) (by rfl) c ?_;simp only [List.setIfInBounds_toArray,List.set_cons_zero,List.set_cons_succ];refine xT (i:=22) rfl rfl (by kernel_rfl) (by kernel_rfl) (by kernel_rfl) (fun _ _ _ h=>h) (by rfl) c ?_;simp only [List.setIfInBounds_toArray,List.set_cons_zero,List.set_cons_succ];refine xT (i:=23) rfl rfl (by kernel_rfl) (by kernel_rfl) (by kernel_rfl) (fun _ _ _ h=>h) (by rfl) c ?_;simp only [List.setIfInBounds_toArray,List.set_cons_zero,List.set_cons_succ];refine YK (i:=24) (v:=.bool true) rfl rfl (by kernel_rfl) (by kernel_rfl) (by kernel_rfl) (fun _ _ _ h=>h) (by rfl) (fun w f=>by (try dsimp only at f);go_simp) c ?_;simp only [List.setIfInBounds_toArray,List.set_cons_zero,List.set_cons_succ];refine wpAnyH_done (by kernel_rfl) ?_ _;have z:=zh (za J.out (ZM a));clear c a m c1 c2 c3 c4 n q;go_wp2;go_ret;exact ⟨zm U.out.symm,za B.out z.out⟩
   | true =>
    have a8:=of_decide_eq_true g;obtain ⟨P,rfl⟩:=Int.eq_ofNat_of_zero_le a8.1;have bh:P<r.pn:=(by have:=aY.out;omega);have bv:(P:Int)<r.pn:=(by omega);obtain ⟨L,aG⟩:=qA (zp r.ps P);have a3:1<=L/\L<=24:=(by have:=yh aB.out (k:=P) (by have:=aY.out;omega);omega);have H:A.cell? (zA s (u+P*2))=some (zI L):=(by rw [<-aG];exact cell_later J.out (bb.out P bh));have aW:Zh (lenOf r b j=L):=(by show lenOf r b j=L;rw [lenOf,ap.out,Int.toNat_natCast,aG]);have bH:IntKind.i64.wrap (r.un-L)=r.un-L:=(by have:=aZ.out;rw [IntKind.wrap_i64];omega);have ae:Zh (∀ d,zL w d->zC 135 #[.agg #[zI r.queue,zI r.fr,zI r.un,zI r.kind,.slice (zO s u) r.pn r.pc],.agg #[zI P,zI l]] d fun e w'=>e=.returned (.bool false)/\zL d w'):=fun d O=>by have:=aC.out d O P l;rw [g] at this;exact this
    have aF:=zh H;have br:=zh a3;clear aG a8 H a3;by_cases bd:l<r.fr
    ·have U:=zh (VC ad aa (show xD r b j=false by
      have:xF r b j=false:=decide_eq_false (by rw [aq.out];omega);rw [xD,this];simp))
     go_wp2_with fail
     rw [<-E];clear E af ag;obtain ⟨m,c1,c2,c3,c4⟩:=Q.out A J.out;have n:=ak.out;have q:=al.out;have H:=aF.out;refine wp_region_held_drew (S:=(fun X=>zL w X/\X.cell? (zA w.heap.size 0)=some (zI r.queue)/\X.cell? (zA w.heap.size 1)=some (zI r.fr)/\X.cell? (zA w.heap.size 2)=some (zI r.un)/\X.cell? (zA w.heap.size 3)=some (zI r.kind)/\X.cell? (zA w.heap.size 4)=some (.slice (zO s u) r.pn r.pc)/\X.cell? (zA wr.heap.size 0)=some (zI P)/\X.cell? (zA wr.heap.size 1)=some (zI l))) (by kernel_rfl) ⟨below_drewN D.out 1,m,c1,c2,c3,c4,n,q⟩ (fun c=>?_);refine YK (i:=0) (v:=.agg #[zI r.queue,zI r.fr,zI r.un,zI r.kind,.slice (zO s u) r.pn r.pc]) rfl rfl (by kernel_rfl) (by kernel_rfl) (by kernel_rfl) (fun _ _ _ h=>h) (by rfl) (fun w f=>by (try dsimp only at f);go_simp) c ?_;simp only [List.setIfInBounds_toArray,List.set_cons_zero,List.set_cons_succ];refine YK (i:=1) (v:=.agg #[zI P,zI l]) rfl rfl (by kernel_rfl) (by kernel_rfl) (by kernel_rfl) (fun _ _ _ h=>h) (by rfl) (fun w f=>by (try dsimp only at f);go_simp) c ?_;simp only [List.setIfInBounds_toArray,List.set_cons_zero,List.set_cons_succ];refine wpAnyH_ready (rs:=[2]) (by kernel_rfl) (by simp) (AllReadyH.cons (o:={ dst:=some 25,op:=Op.call { callee:=Callee.value (Operand.func 135),args:=#[Operand.tmp 23,Operand.tmp 24],argTypes:=#[24,62] },type:=4,pos:= "req.go:26",after:=#[{ on:=0,ground:=Ground.data },{ on:=1,ground:=Ground.data }],guard:=none }) rfl (fun bc ah=>?_) AllReadyH.nil);go_simp
     refine (ae.out _ (below_drewN D.out 1)).mono ?_;rintro e w' ⟨rfl,a⟩;go_simp
     refine ah.out _ _ ⟨za (below_drewN D.out 1) a,cell_later a m,cell_later a c1,cell_later a c2,cell_later a c3,cell_later a c4,cell_later a n,cell_later a q⟩ (fun c=>?_);clear ah;refine YK (i:=3) (v:=.bool false) rfl rfl (by kernel_rfl) (by kernel_rfl) (by kernel_rfl) (fun _ _ _ h=>h) (by rfl) (fun w f=>by (try dsimp only at f);go_simp) c ?_;simp only [List.setIfInBounds_toArray,List.set_cons_zero,List.set_cons_succ];refine YK (i:=4) (v:=.pointer (zO wr.heap.size 1)) rfl rfl (by kernel_rfl) (by kernel_rfl) (by kernel_rfl) (fun _ _ _ h=>h) (by rfl) (fun w f=>by (try dsimp only at f);go_simp) c ?_;simp only [List.setIfInBounds_toArray,List.set_cons_zero,List.set_cons_succ];refine YK (i:=5) (v:=zI l) rfl rfl (by kernel_rfl) (by kernel_rfl) (by kernel_rfl) (fun _ _ _ h=>h) (by rfl) (fun w f=>by (try dsimp only at f);go_simp) c ?_;simp only [List.setIfInBounds_toArray,List.set_cons_zero,List.set_cons_succ];refine YK (i:=6) (v:=.pointer (zO w.heap.size 1)) rfl rfl (by kernel_rfl) (by kernel_rfl) (by kernel_rfl) (fun _ _ _ h=>h) (by rfl) (fun w f=>by (try dsimp only at f);go_simp) c ?_;simp only [List.setIfInBounds_toArray,List.set_cons_zero,List.set_cons_succ];refine YK (i:=7) (v:=zI r.fr) rfl rfl (by kernel_rfl) (by kernel_rfl) (by kernel_rfl) (fun _ _ _ h=>h) (by rfl) (fun w f=>by (try dsimp only at f);go_simp) c ?_;simp only [List.setIfInBounds_toArray,List.set_cons_zero,List.set_cons_succ];refine YK (i:=8) (v:=.bool true) rfl rfl (by kernel_rfl) (by kernel_rfl) (by kernel_rfl) (fun _ _ _ h=>h) (by rfl) (fun w f=>by (try dsimp only at f);go_simp) c ?_;simp only [List.setIfInBounds_toArray,List.set_cons_zero,List.set_cons_succ];refine YK (i:=9) (v:=.bool true) rfl rfl (by kernel_rfl) (by kernel_rfl) (by kernel_rfl) (fun _ _ _ h=>h) (by rfl) (fun w f=>by (try dsimp only at f);go_simp) c ?_;simp only [List.setIfInBounds_toArray,List.set_cons_zero,List.set_cons_succ];refine YK (i:=10) (v:=.bool true) rfl rfl (by kernel_rfl) (by kernel_rfl) (by kernel_rfl) (fun _ _ _ h=>h) (by rfl) (fun w f=>by (try dsimp only at f);go_simp) c ?_;simp only [List.setIfInBounds_toArray,List.set_cons_zero,List.set_cons_succ];refine xT (i:=11) rfl rfl (by kernel_rfl) (by kernel_rfl) (by kernel_rfl) (fun _ _ _ h=>h) (by rfl) c ?_;simp only [List.setIfInBounds_toArray,List.set_cons_zero,List.set_cons_succ];refine xT (i:=12) rfl rfl (by kernel_rfl) (by kernel_rfl) (by kernel_rfl) (fun _ _ _ h=>h) (by rfl) c ?_;simp only [List.setIfInBounds_toArray,List.set_cons_zero,List.set_cons_succ];refine xT (i:=13) rfl rfl (by kernel_rfl) (by kernel_rfl) (by kernel_rfl) (fun _ _ _ h=>h) (by rfl) c ?_;simp only [List.setIfInBounds_toArray,List.set_cons_zero,List.set_cons_succ];refine xT (i:=14) rfl rfl (by kernel_rfl) (by kernel_rfl) (by kernel_rfl) (fun _ _ _ h=>h) (by rfl) c ?_;simp only [List.setIfInBounds_toArray,List.set_cons_zero,List.set_cons_succ];refine xT (i:=15) rfl rfl (by kernel_rfl) (by kernel_rfl) (by kernel_rfl) (fun _ _ _ h=>h) (by rfl) c ?_;simp only [List.setIfInBounds_toArray,List.set_cons_zero,List.set_cons_succ];refine xT (i:=16) rfl rfl (by kernel_rfl) (by kernel_rfl) (by kernel_rfl) (fun _ _ _ h=>h) (by rfl) c ?_;simp only [List.setIfInBounds_toArray,List.set_cons_zero,List.set_cons_succ];refine xT (i:=17) rfl rfl (by kernel_rfl) (by kernel_rfl) (by kernel_rfl) (fun _ _ _ h=>h) (by rfl) c ?_;simp only [List.setIfInBounds_toArray,List.set_cons_zero,List.set_cons_succ];refine xT (i:=18) rfl rfl (by kernel_rfl) (by kernel_rfl) (by kernel_rfl) (fun _ _ _ h=>h) (by rfl) c ?_;simp only [List.setIfInBounds_toArray,List.set_cons_zero,List.set_cons_succ];refine xT (i:=19) rfl rfl (by kernel_rfl) (by kernel_rfl) (by kernel_rfl) (fun _ _ _ h=>h) (by rfl) c ?_;simp only [List.setIfInBounds_toArray,List.set_cons_zero,List.set_cons_succ];refine xT (i:=20) rfl rfl (by kernel_rfl) (by kernel_rfl) (by kernel_rfl) (fun _ _ _ h=>h) (by rfl) c ?_;simp only [List.setIfInBounds_toArray,List.set_cons_zero,List.set_cons_succ];refine xT (i:=21) rfl rfl (by kernel_rfl) (by kernel_rfl) (by kernel_rfl) (fun _ _ _ h=>h) (by rfl) c ?_;simp only [List.setIfInBounds_toArray,List.set_cons_zero,List.set_cons_succ];refine xT (i:=22) rfl rfl (by kernel_rfl) (by kernel_rfl) (by kernel_rfl) (fun _ _ _ h=>h) (by rfl) c ?_;simp only [List.setIfInBounds_toArray,List.set_cons_zero,List.set_cons_succ];refine xT (i:=23) rfl rfl (by kernel_rfl) (by kernel_rfl) (by kernel_rfl) (fun _ _ _ h=>h) (by rfl) c ?_;simp only [List.setIfInBounds_toArray,List.set_cons_zero,List.set_cons_succ];refine YK (i:=24) (v:=.bool true) rfl rfl (by kernel_rfl) (by kernel_rfl) (by kernel_rfl) (fun _ _ _ h=>h) (by rfl) (fun w f=>by (try dsimp only at f);go_simp) c ?_;simp only [List.setIfInBounds_toArray,List.set_cons_zero,List.set_cons_succ];refine wpAnyH_done (by kernel_rfl) ?_ _;have z:=zh (za J.out (ZM a));clear c a m c1 c2 c3 c4 n q;go_wp2;go_ret;exact ⟨zm U.out.symm,za B.out z.out⟩
    have bt:decide (l<r.fr)=false:=decide_eq_false bd;by_cases a1:r.un-L<l
    ·have be:decide (r.un-L<l)=true:=decide_eq_true a1;have U:=zh (VC ad aa (show xD r b j=false by
      have:xF r b j=false:=decide_eq_false (by rw [aq.out,aW.out];omega);rw [xD,this];simp))
     go_wp2_with fail
     rw [<-E];clear E af ag;obtain ⟨m,c1,c2,c3,c4⟩:=Q.out A J.out;have n:=ak.out;have q:=al.out;have H:=aF.out;go_region_held3 (fun X=>zL w X/\X.cell? (zA w.heap.size 0)=some (zI r.queue)/\X.cell? (zA w.heap.size 1)=some (zI r.fr)/\X.cell? (zA w.heap.size 2)=some (zI r.un)/\X.cell? (zA w.heap.size 3)=some (zI r.kind)/\X.cell? (zA w.heap.size 4)=some (.slice (zO s u) r.pn r.pc)/\X.cell? (zA wr.heap.size 0)=some (zI P)/\X.cell? (zA wr.heap.size 1)=some (zI l)/\X.cell? (zA s (u+P*2))=some (zI L))
      (first | exact ⟨below_drewN D.out 1,m,c1,c2,c3,c4,n,q,H⟩ | exact ⟨za (below_drewN D.out 1) a,cell_later a m,cell_later a c1,cell_later a c2,cell_later a c3,cell_later a c4,cell_later a n,cell_later a q,cell_later a H⟩)
      ((go_at_call 135;refine (ae.out _ (below_drewN D.out 1)).mono ?_;rintro e w' ⟨rfl,a⟩))
     rename_i hH;have z:=zh (za J.out (ZM a));clear hH a m c1 c2 c3 c4 n q H;go_wp2;go_ret;exact ⟨zm U.out.symm,za B.out z.out⟩
    have be:decide (r.un-L<l)=false:=decide_eq_false a1;have ao:Zh (xt r b j=true/\xF r b j=true):=⟨by rw [xt,ap.out];exact g,decide_eq_true (by rw [aq.out,aW.out];omega)⟩;go_wp2_with fail
    rw [<-E];clear E af ag;obtain ⟨m,c1,c2,c3,c4⟩:=Q.out A J.out;have n:=ak.out;have q:=al.out;have H:=aF.out;go_region_held3 (fun X=>zL w X/\X.cell? (zA w.heap.size 0)=some (zI r.queue)/\X.cell? (zA w.heap.size 1)=some (zI r.fr)/\X.cell? (zA w.heap.size 2)=some (zI r.un)/\X.cell? (zA w.heap.size 3)=some (zI r.kind)/\X.cell? (zA w.heap.size 4)=some (.slice (zO s u) r.pn r.pc)/\X.cell? (zA wr.heap.size 0)=some (zI P)/\X.cell? (zA wr.heap.size 1)=some (zI l)/\X.cell? (zA s (u+P*2))=some (zI L))
     (first | exact ⟨below_drewN D.out 1,m,c1,c2,c3,c4,n,q,H⟩ | exact ⟨za (below_drewN D.out 1) a,cell_later a m,cell_later a c1,cell_later a c2,cell_later a c3,cell_later a c4,cell_later a n,cell_later a q,cell_later a H⟩)
     ((go_at_call 135;refine (ae.out _ (below_drewN D.out 1)).mono ?_;rintro e w' ⟨rfl,a⟩))
    rename_i hH;have z:=zh (za J.out (ZM a));have aR:=zh (cell_later a n);have aS:=zh (cell_later a q);clear hH a m c1 c2 c3 c4 n q H
    rename World=>W3
    have Y:=zh (za B.out z.out);by_cases bi:j=0
    ·have az:Zh (zQ (xD r b) (j+1)=true):=by
      show zQ (xD r b) (j+1)=true;rw [zQ,am.out,xD,ao.out.1,ao.out.2,bi];rfl
     have bj:decide ((0:Int)<(j:Int))=false:=decide_eq_false (by omega);go_wp2_with fail
     go_quiet (fail)
     go_wp2;go_roundw
     case rel=>exact ⟨j+1,by go_num,by omega,az.out,below_drewN z.out _⟩
     case measure=>simp [intOf];omega
    obtain ⟨k,rfl⟩:∃ k,j=k+1:=⟨j-1,by omega⟩;have bz:(k:Int)<G:=(by omega);have bj:decide ((0:Int)<((k+1:Nat):Int))=true:=decide_eq_true (by omega);have bG:IntKind.i64.wrap (k:Int)=k:=(by rw [IntKind.wrap_i64];omega);obtain ⟨y,aj⟩:∃ x,zp b k=x:=⟨_,rfl⟩;obtain ⟨F,aw⟩:∃ x,rN b k=x:=⟨_,rfl⟩;have aT:Zh (W3.cell? (zA M (N+k*2))=some (zI y)):=(by rw [<-aj];exact cell_later z.out (an.out k (by omega)).1);have aU:Zh (W3.cell? (zA M (N+k*2+1))=some (zI F)):=(by rw [<-aw];exact cell_later z.out (an.out k (by omega)).2);have Z:Zh ((0<=y/\y<r.ps.length)/\(0<=zp r.ps y.toNat/\zp r.ps y.toNat<=24)/\(0<=F/\F<=48)):=by
     have aI:=wm (xv.1 am.out k (by omega));have O:=Zi aI.1;have bf:=Xm aB.out aI.1;have a2:=wR aI.2.1;have bu:=aZ.out;rw [aj] at O;rw [aw] at a2;have bg:lenOf r b k=zp r.ps y.toNat:=(by rw [lenOf,aj]);rw [bg] at bf a2;exact ⟨O,⟨by omega,by omega⟩,by omega,by omega⟩
    have aV:Zh (x9 r b k (k+1)=wa r y F P l):=by
     show x9 r b k (k+1)=wa r y F P l;rw [<-aj,<-aw,<-ap.out,<-aq.out];rfl
    clear aj aw;cases gf:wa r y F P l with
    | false =>
     have U:=zh (VC ad aa (show xD r b (k+1)=false by
      rw [xD,Nat.add_sub_cancel,aV.out,gf];simp))
     have aE:Zh (∀ d,zL w d->zC 187 #[.agg #[zI r.queue,zI r.fr,zI r.un,zI r.kind,.slice (zO s u) r.pn r.pc],.agg #[zI y,zI F],.agg #[zI P,zI l]] d fun e w'=>e=.returned (.bool false)/\zL d w'):=fun d O=>by have:=aD.out d O y F P l Z.out.1 Z.out.2.1 Z.out.2.2;rw [gf] at this;exact this
     go_wp2_with fail
     obtain ⟨m,c1,c2,c3,c4⟩:=Q.out W3 z.out;have n:=aR.out;have q:=aS.out;have V:=aT.out;have W:=aU.out;go_region_held3 (fun X=>zL w X/\X.cell? (zA w.heap.size 0)=some (zI r.queue)/\X.cell? (zA w.heap.size 1)=some (zI r.fr)/\X.cell? (zA w.heap.size 2)=some (zI r.un)/\X.cell? (zA w.heap.size 3)=some (zI r.kind)/\X.cell? (zA w.heap.size 4)=some (.slice (zO s u) r.pn r.pc)/\X.cell? (zA wr.heap.size 0)=some (zI P)/\X.cell? (zA wr.heap.size 1)=some (zI l)/\X.cell? (zA M (N+k*2))=some (zI y)/\X.cell? (zA M (N+k*2+1))=some (zI F))
      (first | exact ⟨below_drewN Y.out 1,m,c1,c2,c3,c4,n,q,V,W⟩ | exact ⟨za (below_drewN Y.out 1) a,cell_later a m,cell_later a c1,cell_later a c2,cell_later a c3,cell_later a c4,cell_later a n,cell_later a q,cell_later a V,cell_later a W⟩)
      ((go_at_call 187;refine (aE.out _ (below_drewN Y.out 1)).mono ?_;rintro e w' ⟨rfl,a⟩))
     rename_i hH;have ax:=zh (za z.out (ZM a));clear hH a m c1 c2 c3 c4 n q V W;go_wp2;go_ret;exact ⟨zm U.out.symm,za B.out ax.out⟩
    | true =>
     have az:Zh (zQ (xD r b) (k+1+1)=true):=by
      show zQ (xD r b) (k+1+1)=true;rw [zQ,am.out,xD,ao.out.1,ao.out.2,Nat.add_sub_cancel,aV.out,gf];simp
     have aE:Zh (∀ d,zL w d->zC 187 #[.agg #[zI r.queue,zI r.fr,zI r.un,zI r.kind,.slice (zO s u) r.pn r.pc],.agg #[zI y,zI F],.agg #[zI P,zI l]] d fun e w'=>e=.returned (.bool true)/\zL d w'):=fun d O=>by have:=aD.out d O y F P l Z.out.1 Z.out.2.1 Z.out.2.2;rw [gf] at this;exact this
     go_wp2_with fail
     obtain ⟨m,c1,c2,c3,c4⟩:=Q.out W3 z.out;have n:=aR.out;have q:=aS.out;have V:=aT.out;have W:=aU.out;go_region_held3 (fun X=>zL w X/\X.cell? (zA w.heap.size 0)=some (zI r.queue)/\X.cell? (zA w.heap.size 1)=some (zI r.fr)/\X.cell? (zA w.heap.size 2)=some (zI r.un)/\X.cell? (zA w.heap.size 3)=some (zI r.kind)/\X.cell? (zA w.heap.size 4)=some (.slice (zO s u) r.pn r.pc)/\X.cell? (zA wr.heap.size 0)=some (zI P)/\X.cell? (zA wr.heap.size 1)=some (zI l)/\X.cell? (zA M (N+k*2))=some (zI y)/\X.cell? (zA M (N+k*2+1))=some (zI F))
      (first | exact ⟨below_drewN Y.out 1,m,c1,c2,c3,c4,n,q,V,W⟩ | exact ⟨za (below_drewN Y.out 1) a,cell_later a m,cell_later a c1,cell_later a c2,cell_later a c3,cell_later a c4,cell_later a n,cell_later a q,cell_later a V,cell_later a W⟩)
      ((go_at_call 187;refine (aE.out _ (below_drewN Y.out 1)).mono ?_;rintro e w' ⟨rfl,a⟩))
     rename_i hH;have ax:=zh (za z.out (ZM a));clear hH a m c1 c2 c3 c4 n q V W;go_wp2;go_roundw
     case rel=>exact ⟨k+1+1,by go_num,by omega,az.out,ax.out⟩
     case measure=>simp [intOf];omega
  obtain rfl:j=G:=by omega
  go_wp2;go_ret;refine ⟨zm ?_,za B.out ab.out⟩;rw [meets,aB.out,<-ad.out,ba.out,am.out];simp
theorem wn (w:World) (r:Rq):∀ X:World,Below (w.alloc (.cells #[zI r.queue,zI r.fr,zI r.un,zI r.kind,.slice r.pa r.pn r.pc] 24)).heap.size (w.alloc (.cells #[zI r.queue,zI r.fr,zI r.un,zI r.kind,.slice r.pa r.pn r.pc] 24)) X->X.cell? (zA w.heap.size 0)=some (zI r.queue)/\X.cell? (zA w.heap.size 1)=some (zI r.fr)/\X.cell? (zA w.heap.size 2)=some (zI r.un)/\X.cell? (zA w.heap.size 3)=some (zI r.kind)/\X.cell? (zA w.heap.size 4)=some (.slice r.pa r.pn r.pc) :=
 fun X a=>⟨cell_later a (by go_simp),cell_later a (by go_simp),cell_later a (by go_simp),cell_later a (by go_simp),cell_later a (by go_simp)⟩
theorem YM {r:Rq} (h:z8 false r=0):1<=xu r:=by
 have:=of_decide_eq_true (zv.1 h).2.1;rw [xu];split <;> omega
theorem Kc (w:World) (r:Rq) (h:zH w r) (t:Option Addr) (g n:Nat) (b:zd) (a:RunsIn w t g n b) :
 zC 163 #[.agg #[zI r.queue,zI r.fr,zI r.un,zI r.kind,.slice r.pa r.pn r.pc],.slice t g n] w fun e w'=>e=.returned (.bool (meets r b))/\Below w.heap.size w w':=by
 have z:=zh a.len;have F:=a.le;have E:=a.capb;have k:=zh ((Below.refl w.heap.size w).alloc (Nat.le_refl _) (.cells (zR r) 24));have m:=zh fun c (a:zL w c)=>Ty c r (h.later a);have s:=zh fun c (a:zL w c)=>Qe c r (h.later a);have A:=zh (wn w r);by_cases d:z8 false r=0
 ·by_cases p:(g:Int)=xu r
  ·have u:0<g:=(by have:=YM d;omega);obtain ⟨B,C,rfl,_⟩:=a.cells u;exact Mp w r h B C g n b a d p u
  have i:meets r b=false:=by rw [meets,<-z.o,decide_eq_false p];simp
  rw [i];have j:decide (z8 false r≠0)=false:=by rw [d];rfl
  rw [j] at m;obtain ⟨x,v⟩:=qA (xu r);rw [v] at s p;clear j v d i;go_enter Tryz.func163,Tryz.ntmps163;go_wp2_with fail
  refine (m.o _ k.o).mono ?_;rintro e c ⟨rfl,f⟩;have l:=zh (za k.o f);obtain ⟨D,c1,c2,c3,c4⟩:=A.o c f;clear f;go_wp2_with fail
  refine (s.o c l.o).mono ?_;rintro e G ⟨rfl,q⟩;have y:=zh (za l.o q);clear q D c1 c2 c3 c4;go_wp2;go_ret;exact ⟨rfl,y.o⟩
 ·have i:meets r b=false:=by rw [meets,decide_eq_false d];rfl
  rw [i];have j:decide (z8 false r≠0)=true:=decide_eq_true d;rw [j] at m;clear j i d;go_enter Tryz.func163,Tryz.ntmps163;go_wp2_with fail
  refine (m.o _ k.o).mono ?_;rintro e c ⟨rfl,f⟩;have l:=zh (za k.o f);clear f;go_wp2;go_ret;exact ⟨rfl,l.o⟩
theorem PF (c:Nat) (v:Array Value) (p:Int->Int->Bool) (O:∀ (args:Array Value) (w:World),(callFunc c args).run Tryz.prog w=.ok (.enter c args) w) (w:World) (b D n u:Nat) (l:zd) (h:RunsIn w (zO b D) n u l) (F:0<n)
 (C:∀ w',Below w.heap.size w w'->∀ x y:Int,zC c (#[.agg #[zI x,zI y]]++v) w' fun e G=>e=.returned (.bool (!p x y))/\Below w'.heap.size w' G) :
 zC 168 #[.slice (zO b D) n u,.func (.func c) #[] v] w fun e w'=>∃ r:Int,e=.returned (zI r)/\(decide (0<=r))=(!zQ (fun i=>p (zp l i) (rN l i)) n)/\Below w.heap.size w w':=by
 have I:=zh h.len;have P:=h.le;have M:=h.capb;obtain ⟨J,R,e,B⟩:=h.cells F;cases e
 have s:=zh B;have t:=zh C;clear B C;go_enter Tryz.func168,Tryz.ntmps168;go_wp2;go_loopw [5,8] (fun _ m wr=>∃ k:Nat,m=zI k/\k<=n/\zQ (fun i=>p (zp l i) (rN l i)) k=true/\zL w wr) (fun _ m _=>n-(intOf m).toNat)
 case atStart=>exact ⟨0,rfl,by omega,rfl,Below.refl _ _⟩
 case round =>
  obtain ⟨j,rfl,N,z,A⟩:=hrel;have q:=zh z;have a:=zh A;clear z A;by_cases f:j<n
  ·have Q:(j:Int)<n:=(by omega);have L:=cell_later a.o (s.o j f).1;have c1:=cell_later a.o (s.o j f).2;cases g:p (zp l j) (rN l j) with
   | false =>
    go_wp2_with fail
    refine (t.o wr a.o (zp l j) (rN l j)).mono ?_;rintro e H ⟨rfl,d⟩;rw [g];go_wp2;go_ret;exact ⟨_,rfl,by rw [yO (p:=fun i=>p (zp l i) (rN l i)) g n f];simp,za a.o d⟩
   | true =>
    go_wp2_with fail
    refine (t.o wr a.o (zp l j) (rN l j)).mono ?_;rintro e H ⟨rfl,d⟩;have E:=zh d;clear d;rw [g];go_wp2;go_roundw
    case rel=>exact ⟨j+1,by go_num,by omega,by rw [zQ,q.o,g];rfl,za a.o E.o⟩
    case measure=>simp [intOf];omega
  obtain rfl:j=n:=by omega
  go_wp2;go_ret;exact ⟨_,rfl,by rw [q.o];rfl,a.o⟩
theorem WG (c:Nat) (f:Array Value) (p:Int->Int->Bool) (t:∀ (args:Array Value) (w:World),(callFunc c args).run Tryz.prog w=.ok (.enter c args) w) (w:World) (a:Option Addr) (n d:Nat) (l:zd) (h:RunsIn w a n d l) (j:0<n)
 (g:∀ w',Below w.heap.size w w'->∀ x y:Int,zC c (#[.agg #[zI x,zI y]]++f) w' fun e v=>e=.returned (.bool (!p x y))/\Below w'.heap.size w' v) :
 zC 133 #[.slice a n d,.func (.func c) #[] f] w fun e w'=>e=.returned (.bool (!zQ (fun i=>p (zp l i) (rN l i)) n))/\Below w.heap.size w w':=by
 obtain ⟨b,u,rfl,_⟩:=h.cells j;have m:=zh g;clear g;go_enter Tryz.func133,Tryz.ntmps133;go_wp2_with fail
 refine (PF c f p t w b u n d l h j m.o).mono ?_;rintro e z ⟨r,rfl,k,s⟩;have q:=zh k;clear k;go_wp2;go_ret;exact ⟨zm q.o,s⟩
def Xh (r:Rq) (p t:Int):Bool:=yW p 0 ((r.ps.length:Int)-1)&&yW t 0 48
theorem Ke (w:World) (r:Rq) (h:zH w r) (B:Nat) (p t:Int) (m:B<w.heap.size)
 (j:(fun X:World=>X.cell? (zA B 0)=some (zI r.queue)/\X.cell? (zA B 1)=some (zI r.fr)/\X.cell? (zA B 2)=some (zI r.un)/\X.cell? (zA B 3)=some (zI r.kind)/\X.cell? (zA B 4)=some (.slice r.pa r.pn r.pc)) w) :
 zC 134 #[.agg #[zI p,zI t],.pointer (zO B 0)] w fun e w'=>e=.returned (.bool (!Xh r p t))/\Below w.heap.size w w':=by
 have c:=zh ((Below.refl w.heap.size w).alloc (Nat.le_refl _) (.cells #[zI p,zI t] 62));have b:=zh (TW _ r (h.later c.o) p t);obtain ⟨k,c1,c2,c3,c4⟩:=j;cases g:yW p 0 ((r.ps.length:Int)-1) with
 | false =>
  have f:Xh r p t=false:=by rw [Xh,g];rfl
  rw [f];rw [g] at b;go_enter Tryz.func134,Tryz.ntmps134;go_wp2_with fail
  refine b.o.mono ?_;rintro e i ⟨rfl,a⟩;have d:=zh (za c.o a);clear a;go_wp2;go_ret;exact ⟨rfl,d.o⟩
 | true =>
  have f:Zh (Xh r p t=yW t 0 48):=by show Xh r p t=yW t 0 48;rw [Xh,g];rfl
  rw [f.o];rw [g] at b;go_enter Tryz.func134,Tryz.ntmps134;go_wp2_with fail
  refine b.o.mono ?_;rintro e i ⟨rfl,a⟩;have d:=zh (za c.o a);have l:i.cell? (zA w.heap.size 1)=some (zI t):=cell_later a (by go_simp);clear a;go_wp2
  all_goals
   go_ret;refine ⟨zm ?_,d.o⟩;rw [Bool.eq_iff_iff];simp [yW];try omega
def U8 (r:Rq) (b:zd):Bool:=zQ (fun i=>Xh r (zp b i) (rN b i)) b.length
def zJ (r:Rq) (b:zd):Nat->Int
 | 0=>0
 | k+1=>max (zJ r b k) (Z6 r b k)
def yd (r:Rq) (b:zd):Bool:=decide (z8 false r=0)&&(decide (0<b.length)&&U8 r b)
theorem Xa {r:Rq} {b:zd} (h:yd r b=false):(if yd r b=true then zJ r b b.length else 0)=0/\(if yd r b=true then (0:Int) else 1)=1:=by rw [h];exact ⟨rfl,rfl⟩
theorem RK {r:Rq} {b:zd} (h:yd r b=true):(if yd r b=true then zJ r b b.length else 0)=zJ r b b.length/\(if yd r b=true then (0:Int) else 1)=0:=by rw [h];exact ⟨rfl,rfl⟩
theorem Ij {r:Rq} {b:zd} {i n:Nat} (e:z8 false r=0) (h:zQ (fun i=>Xh r (zp b i) (rN b i)) n=true) (f:i<n) :
 (0<=zp b i/\zp b i<r.ps.length)/\(1<=zp r.ps (zp b i).toNat/\zp r.ps (zp b i).toNat<=24)/\(0<=rN b i/\rN b i<=48):=by
 have a:=xv.1 h i f;simp only [Xh,Bool.and_eq_true] at a;have g:=of_decide_eq_true a.1;have d:=of_decide_eq_true a.2;have c:=yh e (k:=(zp b i).toNat) (by omega);exact ⟨⟨by omega,by omega⟩,⟨c.1,c.2.1⟩,d⟩
theorem VR {r:Rq} {b:zd} {n:Nat} (a:z8 false r=0) (h:zQ (fun i=>Xh r (zp b i) (rN b i)) n=true):∀ k,k<=n->0<=zJ r b k/\zJ r b k<=72
 | 0,_=>by simp [zJ]
 | k+1,hk=>by
  have c:=VR a h k (by omega);have d:=Ij a h (i:=k) (by omega);rw [zJ,Z6,lenOf];omega
theorem ON (w:World) (r:Rq) (h:zH w r) (U:Option Addr) (f D:Nat) (b:zd) (k:RunsIn w U f D b) :
 zC 84 #[.agg #[zI r.queue,zI r.fr,zI r.un,zI r.kind,.slice r.pa r.pn r.pc],.slice U f D] w fun e w'=>e=.returned (.tuple #[zI (if yd r b=true then zJ r b b.length else 0),zI (if yd r b=true then 0 else 1)])/\Below w.heap.size w w':=by
 have C:=zh k.len;have ap:=k.le;have an:=k.capb;have d:=zh ((Below.refl w.heap.size w).alloc (Nat.le_refl _) (.cells (zR r) 24));have l:=zh fun a (k:zL w a)=>Ty a r (h.later k);have S:=zh (wn w r);by_cases n:z8 false r=0
 ·have z:decide (z8 false r≠0)=false:=by rw [n];rfl
  rw [z] at l;have Q:=zh n;clear z n;by_cases H:f=0
  ·have c:=Xa (show yd r b=false by rw [yd,<-C.o,H];simp);rw [c.1,c.2];clear c;subst H;go_enter Tryz.func84,Tryz.ntmps84;go_wp2_with fail
   refine (l.o _ d.o).mono ?_;rintro e a ⟨rfl,g⟩;have F:=zh (za d.o g);clear g;go_wp2;go_ret2
   exact ⟨rfl,F.o⟩
  have J:0<f:=by omega
  have am:¬(f:Int)=0:=by omega
  obtain ⟨ae,af,rfl,X⟩:=k.cells J;have R:=zh X;clear X H;have v:Zh (∀ a,Below (w.alloc (.cells (zR r) 24)).heap.size (w.alloc (.cells (zR r) 24)) a->zC 133 #[.slice (zO ae af) f D,.func (.func 134) #[] #[.pointer (zO w.heap.size 0)]] a fun e w'=>e=.returned (.bool (!zQ (fun i=>Xh r (zp b i) (rN b i)) f))/\zL a w'):=fun a E =>
   WG 134 #[.pointer (zO w.heap.size 0)] (Xh r) (fun args w=>by go_simp) a _ f D b (k.later (za d.o E)) J
    (fun w' L x y=>Ke w' r (h.later (za (za d.o E) L)) w.heap.size x y (by have:=(za E L).size;simp at this;omega) (wn w r w' (za E L)))
  cases q:zQ (fun i=>Xh r (zp b i) (rN b i)) f with
  | false =>
   have c:=Xa (show yd r b=false by rw [yd,U8,<-C.o,q];simp);rw [c.1,c.2];clear c;rw [q] at v;go_enter Tryz.func84,Tryz.ntmps84;go_wp2_with fail
   refine (l.o _ d.o).mono ?_;rintro e a ⟨rfl,g⟩;have m:=zh g;clear g;go_wp2_with fail
   refine (v.o a m.o).mono ?_;rintro e al ⟨rfl,s⟩;have A:=zh (za d.o (za m.o s));clear s;go_wp2;go_ret2
   exact ⟨rfl,A.o⟩
  | true =>
   have c:=RK (show yd r b=true by rw [yd,U8,<-C.o,q,Q.o];simp;exact J);rw [c.1,c.2,<-C.o];clear c;have Z:=zh q;rw [q] at v;clear q;have ad:=zh fun a (k:zL w a) p t=>NJ a r (h.later k) p t;go_enter Tryz.func84,Tryz.ntmps84;go_wp2_with fail
   refine (l.o _ d.o).mono ?_;rintro e a ⟨rfl,g⟩;have m:=zh g;clear g;go_wp2_with fail
   refine (v.o a m.o).mono ?_;rintro e al ⟨rfl,s⟩;have A:=zh (za m.o s);clear s m l v;go_wp2_with fail
   obtain ⟨W0,V⟩:=qB (w.alloc (.cells (zR r) 24));rw [<-V] at A S d;clear V;go_loopw [6,21] (fun ak O wr=>∃ j:Nat,O=zI j/\j<=f/\ak=zI (zJ r b j)/\zL W0 wr) (fun _ O _=>f-(intOf O).toNat)
   case atStart=>exact ⟨0,rfl,by omega,rfl,A.o⟩
   obtain ⟨j,rfl,ao,rfl,W⟩:=hrel;have u:=zh W;clear W;by_cases I:j<f
   ·have aq:(j:Int)<f:=(by omega);have ah:=cell_later (za d.o u.o) (R.o j I).1;have ai:=cell_later (za d.o u.o) (R.o j I).2;have B:=zh (Ij Q.o Z.o I);have G:Zh (zL W0 (wr.alloc (.cells #[zI (zp b j),zI (rN b j)] 62))):=u.o.alloc u.o.size _;have aj:Zh (rN b j+zp r.ps (zp b j).toNat=Z6 r b j):=rfl;obtain ⟨ag,c1,c2,c3,c4⟩:=S.o _ G.o;obtain ⟨x,M⟩:=qA (zJ r b j);rw [M];have aa:=zh M;clear M;go_wp2_with fail
    refine (ad.o _ (za d.o G.o) _ _ B.o.1 ⟨by have:=B.o.2.1;omega,B.o.2.1.2⟩ B.o.2.2).mono ?_;rintro e ar ⟨rfl,P⟩;rw [aj.o];have Y:=zh (za G.o P);clear P ag c1 c2 c3 c4 ah ai;obtain ⟨y,N⟩:=qA (Z6 r b j);rw [N];have ab:=zh N;clear N;go_wp2
    all_goals
     go_roundw
     case rel=>exact ⟨j+1,by go_num,by omega,by rw [zJ,aa.o,ab.o];congr 1;omega,Y.o⟩
     case measure=>simp [intOf];omega
   obtain rfl:j=f:=(by omega);go_wp2;go_ret2
   exact ⟨rfl,za d.o u.o⟩
 ·have c:=Xa (show yd r b=false by rw [yd,decide_eq_false n];rfl);rw [c.1,c.2];have z:decide (z8 false r≠0)=true:=decide_eq_true n;rw [z] at l;clear z n c;go_enter Tryz.func84,Tryz.ntmps84;go_wp2_with fail
  refine (l.o _ d.o).mono ?_;rintro e a ⟨rfl,g⟩;have F:=zh (za d.o g);clear g;go_wp2;go_ret2
  exact ⟨rfl,F.o⟩
def Rq.as (r:Rq) (k:Int):Rq:=⟨r.queue,r.fr,r.un,k,r.pa,r.pn,r.pc,r.ps⟩
theorem yk {r:Rq} {b:zd}:meets r b=true↔z8 false r=0/\(b.length:Int)=xu r/\∀ i,i<b.length->xD r b i=true:=by
 rw [meets,Bool.and_eq_true,Bool.and_eq_true,decide_eq_true_iff,decide_eq_true_iff,xv]
theorem La {r:Rq} {b:zd} (h:meets r b=true):yd r b=true:=by
 obtain ⟨a,l,e⟩:=yk.1 h;have n:=YM a;have m:=xA a;rw [yd,decide_eq_true a,decide_eq_true (show 0<b.length by omega),Bool.true_and,Bool.true_and,U8,xv];intro i f;obtain ⟨c,d,_⟩:=wm (e i f);have g:=wR d;have j:=Xm a c;have k:=Zi c;simp only [Xh,Bool.and_eq_true,yW,decide_eq_true_eq];omega
theorem RJ {r:Rq} {b:zd} (h:meets r b=true):∀ k,k<=b.length->zJ r b k<=r.un
 | 0,_=>by have:=xA (yk.1 h).1;simp only [zJ];omega
 | k+1,hk=>by
  obtain ⟨f,g,c⟩:=yk.1 h;have i:=RJ h k (by omega);obtain ⟨d,a,_⟩:=wm (c k (by omega));have e:=wR a;simp only [zJ,Z6];omega
theorem RI {r:Rq} {b:zd}:∀ {n k:Nat},k<n->Z6 r b k<=zJ r b n
 | 0,k,h=>by omega
 | n+1,k,h=>by
  rw [zJ];by_cases e:k=n
  ·subst e;omega
  have:=RI (r:=r) (b:=b) (n:=n) (k:=k) (by omega);omega
theorem YY {r:Rq} {b:zd} (h:meets r b=true):zJ r b b.length<=r.un/\r.fr<zJ r b b.length/\rN b 0<zJ r b b.length/\0<b.length:=by
 obtain ⟨c,l,f⟩:=yk.1 h;have m:=YM c;have a:0<b.length:=by omega
 have g:=RJ h b.length (Nat.le_refl _);have i:=RI (r:=r) (b:=b) a;obtain ⟨d,e,_⟩:=wm (f 0 a);have j:=wR e;have k:=Xm c d;simp only [Z6] at i;exact ⟨g,by omega,by omega,a⟩
def yl (r:Rq) (b:zd) (k:Nat):Bool:=(xt r b k&&(decide (k=0)||decide (zp b (k-1)<zp b k)))&&xF r b k
def xg (r:Rq) (b:zd) (k:Nat):Bool:=decide (k=0)||(if r.kind=3 then decide (rN b (k-1)+zp r.ps (k-1)<=rN b k) else if r.kind=4 then decide (rN b k=rN b (k-1)+zp r.ps (k-1)) else true)
def xB (r:Rq) (b:zd):Bool:=decide (z8 false r=0)&&(zQ (yl r b) b.length&&(if r.kind=2 then decide (b.length=1) else (decide (b.length=r.ps.length)&&zQ (xg r b) b.length)))
theorem VY {r:Rq} {b:zd} {k:Nat} (h:yl r b k=true):xt r b k=true/\(k=0\/zp b (k-1)<zp b k)/\xF r b k=true:=by
 simp [yl] at h;exact ⟨h.1.1,h.1.2,h.2⟩
theorem NL {r:Rq} {b:zd} (hn:b.length=r.ps.length) (l:r.ps.length<=3) (h:zQ (yl r b) b.length=true) (k:Nat) (t:k<b.length):zp b k=k:=by
 have g:=fun i a=>VY (xv.1 h i a);have p:=fun i a=>Zi (g i a).1;have q:=fun i a=>(g i a).2.1;by_cases o:b.length=1
 ·have:=p 0 (by omega);obtain rfl:k=0:=by omega
  omega
 by_cases s:b.length=2
 ·have d:=p 0 (by omega);have f:=p 1 (by omega);have c:=q 1 (by omega);simp at c;by_cases e:k=0
  ·subst e;omega
  obtain rfl:k=1:=by omega
  omega
 have l:b.length=3:=by omega
 have d:=p 0 (by omega);have f:=p 1 (by omega);have n:=p 2 (by omega);have c:=q 1 (by omega);have m:=q 2 (by omega);simp at c m;by_cases e:k=0
 ·subst e;omega
 by_cases j:k=1
 ·subst j;omega
 obtain rfl:k=2:=by omega
 omega
theorem M7 (r:Rq) (b:zd):xB r b=meets r b:=by
 by_cases l:z8 false r=0
 case neg=>rw [xB,meets,decide_eq_false l];rfl
 have q:=of_decide_eq_true (zv.1 l).2.1;rw [xB,meets,l];by_cases a:r.kind=2
 ·rw [if_pos a,xu,if_pos a];by_cases i:b.length=1
  ·rw [i];simp [zQ,yl,xD]
  have d:decide (b.length=1)=false:=decide_eq_false i;have g:decide ((b.length:Int)=1)=false:=decide_eq_false (by omega);rw [d,g];simp
 rw [if_neg a,xu,if_neg a];by_cases hn:b.length=r.ps.length
 ·have d:decide (b.length=r.ps.length)=true:=decide_eq_true hn;have g:decide ((b.length:Int)=r.ps.length)=true:=decide_eq_true (by omega);rw [d,g];rw [Bool.eq_iff_iff];simp only [decide_true,Bool.true_and,Bool.and_eq_true,xv]
  constructor
  ·rintro ⟨i,p⟩ k a;have f:=VY (i k a);have s:=p k a;rw [xD,f.1,f.2.2];by_cases c:k=0
   ·simp [c]
   have j:zp b (k-1)<zp b k:=(by rcases f.2.1 with e | e;exact absurd e c;exact e);have n:=NL hn (by omega) (xv.2 i) (k-1) (by omega);have m:lenOf r b (k-1)=zp r.ps (k-1):=(by rw [lenOf,n,Int.toNat_natCast]);rw [xg,decide_eq_false c] at s;rw [x9,Z6,m,decide_eq_true j];simp at s ⊢;exact Or.inr s
  intro h;have o:∀ k,k<b.length->yl r b k=true:=fun k a=>by
   have f:=wm (h k a);rw [yl,f.1,f.2.1];rcases f.2.2 with e | e
   ·simp [e]
   rw [x9,Bool.and_eq_true] at e;simp [of_decide_eq_true e.1]
  refine ⟨o,fun k a=>?_⟩;by_cases c:k=0
  ·simp [xg,c]
  have f:=wm (h k a);have j:x9 r b (k-1) k=true:=by rcases f.2.2 with e | e;exact absurd e c;exact e
  have n:=NL hn (by omega) (xv.2 o) (k-1) (by omega);have m:lenOf r b (k-1)=zp r.ps (k-1):=by rw [lenOf,n,Int.toNat_natCast]
  rw [x9,Z6,m,Bool.and_eq_true] at j;rw [xg,decide_eq_false c];simpa using j.2
 have d:decide (b.length=r.ps.length)=false:=decide_eq_false hn;have g:decide ((b.length:Int)=r.ps.length)=false:=decide_eq_false (by omega);rw [d,g];simp
theorem wE {r:Rq} {b:zd} {n j:Nat} (hn:Zh (n=b.length)) (a:j<n) (h:yl r b j=false):xB r b=false:=by
 rw [xB,<-hn.o,yO h n a];simp
theorem Tn (w:World) (l:zd) (c:Array Value) (t:TypeId) (n:Nat) (f:c.toList=cellsOf l) (hn:n=l.length) (g:l.length<=48):RunsIn (w.alloc (.cells c t)) (zO w.heap.size 0) n n l:=by
 refine ⟨hn,Nat.le_refl _,by omega,by omega,fun _=>⟨w.heap.size,0,rfl,fun i h=>?_⟩,fun _ b j e=>by cases e;exact Or.inr ⟨c,t,heap_alloc_new w _⟩⟩;rw [World.cell?_alloc_at _ _ _ _ rfl,World.cell?_alloc_at _ _ _ _ rfl];have a:=xr l i (by omega);have d:=xJ l i (by omega);rw [<-f] at a d;simp only [Array.getElem?_toList] at a d;rw [Nat.zero_add];exact ⟨a,d⟩
def IY (c:Nat) (q kind:Int):Rq:=⟨q,2,30,kind,zO c 0,2,2,[(4,3),(5,6)]⟩
theorem NO (w:World) (a:Int):zC 36 #[zI a] w fun e w'=>e=.returned (.agg #[zI 3,zI 2,zI 30,zI a,.slice (zO (w.heap.size+1) 0) 2 2])/\zH w' (IY (w.heap.size+1) 3 a)/\Below w.heap.size w w':=by
 go_enter Tryz.func36,Tryz.ntmps36;go_wp2;have b:zL w ((w.alloc (.cells #[zI 3,zI 2,zI 30,zI a,.slice (zO (w.heap.size+1) 0) 2 2] 24)).alloc (.cells #[zI 4,zI 3,zI 5,zI 6] 64)):=(zr _ _).alloc (by simp) _;refine bodyPost_ret (v:=.agg #[zI 3,zI 2,zI 30,zI a,.slice (zO (w.heap.size+1) 0) 2 2]) (results_cell_row Tryz.results36 _ _ w.heap.size 24 #[zI 3,zI 2,zI 30,zI a,.slice (zO (w.heap.size+1) 0) 2 2] (0,0) _ rfl ((Below.heap_alloc _ _ _ (by simp)).trans (heap_alloc_new w _)) Tryz.underlying24 rfl (by kernel_rfl)) rfl ⟨rfl,?_,b⟩;have:=Tn (w.alloc (.cells #[zI 3,zI 2,zI 30,zI a,.slice (zO (w.heap.size+1) 0) 2 2] 24)) [(4,3),(5,6)] #[zI 4,zI 3,zI 5,zI 6] 64 2 rfl rfl (by decide);rw [World.size_alloc] at this;exact this
def Mc (X:World) (g:Nat) (a b c d e:Value):Prop:=X.cell? (zA g 0)=some a/\X.cell? (zA g 1)=some b/\X.cell? (zA g 2)=some c/\X.cell? (zA g 3)=some d/\X.cell? (zA g 4)=some e
theorem Mc.later {X i:World} {g:Nat} {a b c d e:Value} (h:Mc X g a b c d e) (f:Below X.heap.size X i):Mc i g a b c d e:=⟨cell_later f h.1,cell_later f h.2.1,cell_later f h.2.2.1,cell_later f h.2.2.2.1,cell_later f h.2.2.2.2⟩
end Go.Proofs.YtckpdfkobdgjeaaGreatDoor
