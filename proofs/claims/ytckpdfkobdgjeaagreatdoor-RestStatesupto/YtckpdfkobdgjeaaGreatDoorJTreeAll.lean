/- Several texts in one: TreeA, TreeB, TreeC, TreeD, TreeE, TreeF, TreeG, TreeH, TreeI, TreeJ. -/
import Derived.Test.YtckpdfkobdgjeaaGreatDoorJRunsAll
import Derived.Maps.Own
import Derived.Maps.OwnOps
import Derived.Maps.Views
import Derived.Deep.OwnRows
import Derived.RangeFuncNested
import Derived.RangeFuncBox
import Derived.RangeFuncLeaves
import Derived.Shelf.Abstract
import Derived.WalkKit
import Derived.OwnWalkIn
import Derived.TacticsInMore
import Derived.LoopNIn
import Derived.LoopIn
import Derived.Maps.AppendAt
namespace Go.Proofs.YtckpdfkobdgjeaaGreatDoor
set_option maxRecDepth 100000
set_option maxHeartbeats 1000000
open Go.RowKit
open Go.RowKit Go.WideMaps Go.Maps
open Go.RowKit Go.Shelf
attribute [local go_sem] Oper.semAt_some
set_option linter.unusedSectionVars false
variable [Inhabited Mk]
def ZF (s:ByteArray) (k:Nat):Nat:=if h:k<s.size then s[k].toNat else 0
def MD (n:Nat):Bool:=decide (97<=n/\n<=122)
def Si (s:ByteArray):Nat->Bool
 | 0=>true
 | k+1=>Si s k&&MD (ZF s k)
def Zg (s:ByteArray):Bool:=decide (1<=s.size/\s.size<=8)&&Si s s.size
theorem S1 {s:ByteArray} {k:Nat} (h:MD (ZF s k)=false):∀ n,k<n->Si s n=false
 | 0,hn=>by omega
 | n+1,hn=>by
  by_cases e:k=n
  ·subst e;simp [Si,h]
  rw [Si,S1 h n (by omega)];rfl
theorem RD {s:ByteArray} (h:s.size<1\/8<s.size):Zg s=false:=by
 have:¬(1<=s.size/\s.size<=8):=by omega
 simp [Zg,this]
theorem UF {s:ByteArray} {k:Nat} (a:k<s.size) (h:MD (ZF s k)=false):Zg s=false:=by
 rw [Zg,S1 h _ a];simp
theorem Jj {s:ByteArray} (a:1<=s.size) (b:s.size<=8) (h:Si s s.size=true):Zg s=true:=by
 simp [Zg,h,a,b]
theorem Ik {s:ByteArray} {k:Nat} (a:k<s.size) (h:(s[k].toNat:Int)<97):MD (ZF s k)=false:=by
 rw [ZF,dif_pos a];simp [MD];omega
theorem LH {s:ByteArray} {k:Nat} (a:k<s.size) (h:(122:Int)<s[k].toNat):MD (ZF s k)=false:=by
 rw [ZF,dif_pos a];simp [MD];omega
theorem Il {s:ByteArray} {k:Nat} (a:k<s.size) (b:¬(s[k].toNat:Int)<97) (c:¬(122:Int)<s[k].toNat):MD (ZF s k)=true:=by
 rw [ZF,dif_pos a];simp [MD];omega
theorem JW (s:ByteArray) (w:World) (q:s.size<=9223372036854775807):zC 122 #[.string s] w fun e w'=>e=.returned (.bool (Zg s))/\w'=w:=by
 by_cases i:s.size<1
 ·go_enter Tryz.func122,Tryz.ntmps122;go_wp2;go_ret;exact ⟨zm (RD (Or.inl i)).symm,rfl⟩
 by_cases j:8<s.size
 ·go_enter Tryz.func122,Tryz.ntmps122;go_wp2;go_ret;exact ⟨zm (RD (Or.inr j)).symm,rfl⟩
 have l:(1:Int)<=s.size:=by omega
 have m:(s.size:Int)<=8:=by omega
 go_enter Tryz.func122,Tryz.ntmps122;go_wp2;go_loop [3,14] (fun _ c=>∃ k:Nat,c=zI k/\k<=s.size/\Si s k=true) (fun _ c=>s.size-(intOf c).toNat)
 case atStart=>exact ⟨0,rfl,by omega,rfl⟩
 obtain ⟨k,rfl,n,h⟩:=hrel;have d:Zh (Si s k=true):=h;clear h;by_cases b:k<s.size
 ·have p:(k:Int)<s.size:=by omega
  by_cases f:(s[k].toNat:Int)<97
  ·have a:Zh (MD (ZF s k)=false):=Ik b f;go_wp2;go_ret;exact ⟨zm (UF b a.o).symm,rfl⟩
  by_cases g:(122:Int)<s[k].toNat
  ·have a:Zh (MD (ZF s k)=false):=LH b g;go_wp2;go_ret;exact ⟨zm (UF b a.o).symm,rfl⟩
  have a:Zh (MD (ZF s k)=true):=Il b f g;go_wp2;go_round
  case rel=>exact ⟨k+1,by go_num,by omega,by rw [Si,d.o,a.o];rfl⟩
  case measure=>simp [intOf];omega
 obtain rfl:k=s.size:=by omega
 go_wp2;go_ret;exact ⟨zm (Jj (by omega) (by omega) d.o).symm,rfl⟩
def QV (x:Int):Bool:=decide (0<=x/\x<=50)
def Xj (l:zd):Nat->Bool
 | 0=>true
 | k+1=>Xj l k&&QV (rN l k)
def yR (l:zd):Bool:=xe l&&Xj l l.length
theorem WN {l:zd} {k:Nat} (h:QV (rN l k)=false):∀ n,k<n->Xj l n=false
 | 0,hn=>by omega
 | n+1,hn=>by
  by_cases e:k=n
  ·subst e;simp [Xj,h]
  rw [Xj,WN h n (by omega)];rfl
theorem TI (x y:Int) (w:World):zC 162 #[.agg #[zI x,zI y]] w fun e w'=>e=.returned (.bool (!QV y))/\Below w.heap.size w w':=by
 go_enter Tryz.func162,Tryz.ntmps162;go_wp2
 all_goals
  go_ret;refine ⟨zm ?_,zr _ _⟩;rw [Bool.eq_iff_iff];simp [QV]
  try omega
theorem SF (w:World) (b t n m:Nat) (l:zd) (h:RunsIn w (zO b t) n m l) (v:0<n) :
 zC 185 #[.slice (zO b t) n m,.func (.func 162) #[] #[]] w fun e w'=>∃ r:Int,e=.returned (zI r)/\(decide (0<=r))=(!Xj l n)/\Below w.heap.size w w':=by
 have y:=zh h.len;have D:=h.le;have B:=h.bound;obtain ⟨z,F,e,q⟩:=h.cells v;cases e
 have j:=zh q;clear q;go_enter Tryz.func185,Tryz.ntmps185;go_wp2;go_loopw [5,8] (fun _ f wr=>∃ k:Nat,f=zI k/\k<=n/\Xj l k=true/\zL w wr) (fun _ f _=>n-(intOf f).toNat)
 case atStart=>exact ⟨0,rfl,by omega,rfl,Below.refl _ _⟩
 case round =>
  obtain ⟨k,rfl,C,s,p⟩:=hrel;have i:=zh s;have a:=zh p;clear s p;by_cases d:k<n
  ·have E:(k:Int)<n:=(by omega);have A:=cell_later a.o (j.o k d).1;have c1:=cell_later a.o (j.o k d).2;cases g:QV (rN l k) with
   | false =>
    go_wp2_with (go_at_call 162;refine (TI _ _ _).mono ?_;rintro e x ⟨rfl,c⟩;rw [g])
    go_ret;exact ⟨_,rfl,by rw [WN g n d];simp,za a.o c⟩
   | true =>
    go_wp2_with (go_at_call 162;refine (TI _ _ _).mono ?_;rintro e x ⟨rfl,c⟩;have u:=zh c;clear c;rw [g])
    go_roundw
    case rel=>exact ⟨k+1,by go_num,by omega,by rw [Xj,i.o,g];rfl,za a.o u.o⟩
    case measure=>simp [intOf];omega
  obtain rfl:k=n:=by omega
  go_wp2;go_ret;exact ⟨_,rfl,by rw [i.o];rfl,a.o⟩
theorem SE (w:World) (a:Option Addr) (b:Nat) (k:Nat) :
 zC 185 #[.slice a 0 b,.func (.func k) #[] #[]] w fun e w'=>e=.returned (zI (-1))/\w'=w:=by
 go_enter Tryz.func185,Tryz.ntmps185;go_wp2;go_loop [5,8] (fun _ c=>c=zI 0) (fun _ _=>0)
 case atStart=>rfl
 case round =>
  subst hrel;go_wp2;go_ret;exact ⟨rfl,rfl⟩
theorem Qm (w:World) (a:Option Addr) (n c:Nat) (l:zd) (h:RunsIn w a n c l) :
 zC 185 #[.slice a n c,.func (.func 162) #[] #[]] w fun e w'=>∃ r:Int,e=.returned (zI r)/\(decide (0<=r))=(!Xj l n)/\Below w.heap.size w w':=by
 by_cases d:0<n
 ·obtain ⟨b,f,rfl,_⟩:=h.cells d;exact SF w b f n c l h d
 ·obtain rfl:n=0:=by omega
  refine (SE w a c 162).mono ?_;rintro e w' ⟨rfl,rfl⟩;exact ⟨_,rfl,rfl,Below.refl _ _⟩
theorem UZ (w:World) (a:Option Addr) (n b:Nat) (l:zd) (h:RunsIn w a n b l) :
 zC 161 #[.slice a n b,.func (.func 162) #[] #[]] w fun e w'=>e=.returned (.bool (!Xj l n))/\Below w.heap.size w w':=by
 go_enter Tryz.func161,Tryz.ntmps161;go_wp2_with fail
 refine (Qm w a n b l h).mono ?_;rintro e g ⟨r,rfl,c,f⟩;have d:=zh c;clear c;go_wp2;go_ret;exact ⟨zm d.o,f⟩
theorem ME (w:World) (a:Option Addr) (n b:Nat) (l:zd) (h:RunsIn w a n b l) :
 zC 126 #[.slice a n b] w fun e w'=>e=.returned (.bool (!yR l))/\Below w.heap.size w w':=by
 have j:=zh h.len;cases d:xe l with
 | false =>
  have f:Wd l=1:=by simp [Wd,d]
  have g:yR l=false:=by simp [yR,d]
  rw [g];go_enter Tryz.func126,Tryz.ntmps126;go_wp2_with fail
  refine (yg w a n b l h).mono ?_;rintro e i ⟨rfl,c⟩;rw [f];go_wp2;go_ret;exact ⟨rfl,c⟩
 | true =>
  have f:Wd l=0:=by simp [Wd,d]
  have g:yR l=Xj l n:=by rw [yR,d,j.o];rfl
  rw [g];go_enter Tryz.func126,Tryz.ntmps126;go_wp2_with fail
  refine (yg w a n b l h).mono ?_;rintro e i ⟨rfl,c⟩;rw [f];go_wp2_with fail
  refine (UZ i a n b l (h.later c)).mono ?_;rintro e m ⟨rfl,k⟩;go_wp2;go_ret;exact ⟨rfl,za c k⟩
structure Qu where
 name:ByteArray
 parent:Int
 ca:Option Addr
 cn:Nat
 cc:Nat
 runs:zd
abbrev QL:=List Qu
def qu (l:QL) (i:Nat):Qu:=l.getD i ⟨ByteArray.empty,0,none,0,0,[]⟩
structure QsIn (w:World) (a:Option Addr) (n cap:Nat) (l:QL):Prop where
 len:n=l.length
 le:n<=cap
 capb:cap<=9223372036854775807
 cells:0<n->∃ b off,a=zO b off/\∀ i,i<n->w.cell? (zA b (off+i*3))=some (.string (qu l i).name)/\w.cell? (zA b (off+i*3+1))=some (zI (qu l i).parent)/\w.cell? (zA b (off+i*3+2))=some (.slice (qu l i).ca (qu l i).cn (qu l i).cc)
 caps:∀ i,i<n->RunsIn w (qu l i).ca (qu l i).cn (qu l i).cc (qu l i).runs
 names:∀ i,i<n->(qu l i).name.size<=9223372036854775807
 thaw:0<n->∀ b off,a=zO b off->Ed w b
theorem QsIn.lt {w:World} {a:Option Addr} {n f:Nat} {l:QL} (h:QsIn w a n f l) (d:0<n) {b i:Nat} (e:a=zO b i):b<w.heap.size:=by
 obtain ⟨j,k,c,g⟩:=h.cells d;rw [e] at c;cases c
 exact xq (g 0 d).1
theorem QsIn.later {w w':World} {a:Option Addr} {n k:Nat} {l:QL} (h:QsIn w a n k l) (c:Below w.heap.size w w'):QsIn w' a n k l:=by
 refine ⟨h.len,h.le,h.capb,fun f=>?_,fun i d=>(h.caps i d).later c,h.names,fun f b j e=>(h.thaw f b j e).of_eq (c.block b (h.lt f e))⟩;obtain ⟨b,j,m,g⟩:=h.cells f;exact ⟨b,j,m,fun i d=>⟨cell_later c (g i d).1,cell_later c (g i d).2.1,cell_later c (g i d).2.2⟩⟩
def Yg (p:Qu->Bool) (l:QL):Nat->Bool
 | 0=>true
 | k+1=>Yg p l k&&p (qu l k)
theorem Xg {p:Qu->Bool} {l:QL} {k:Nat} (h:p (qu l k)=false):∀ n,k<n->Yg p l n=false
 | 0,hn=>by omega
 | n+1,hn=>by
  by_cases e:k=n
  ·subst e;simp [Yg,h]
  rw [Yg,Xg h n (by omega)];rfl
theorem Um {p:Qu->Bool} {l:QL}:∀ {n:Nat},Yg p l n=true↔∀ k,k<n->p (qu l k)=true
 | 0=>by simp [Yg]
 | n+1=>by
  simp only [Yg,Bool.and_eq_true,Um (n:=n)]
  constructor
  ·rintro ⟨a,b⟩ k c;by_cases e:k=n
   ·subst e;exact b
   exact a k (by omega)
  intro h;exact ⟨fun k c=>h k (by omega),h n (by omega)⟩
def Sn (k:Nat) (p:Qu->Bool):Prop :=
 (∀ (args:Array Value) (w:World),(callFunc k args).run Tryz.prog w=.ok (.enter k args) w) /\
 ∀ (q:Qu) (w:World),q.name.size<=9223372036854775807->RunsIn w q.ca q.cn q.cc q.runs->zC k #[.agg #[.string q.name,zI q.parent,.slice q.ca q.cn q.cc]] w fun e w'=>e=.returned (.bool (!p q))/\Below w.heap.size w w'
theorem Fg:Sn 121 (fun q=>Zg q.name):=by
 refine ⟨fun args w=>by go_simp,fun q w hn a=>?_⟩;go_enter Tryz.func121,Tryz.ntmps121;go_wp2_with (go_at_call 122;refine (JW _ _ hn).mono ?_;rintro e w' ⟨rfl,rfl⟩)
 go_ret;exact ⟨rfl,zr _ _⟩
theorem Fh:Sn 125 (fun q=>yR q.runs):=by
 refine ⟨fun args w=>by go_simp,fun q w hn d=>?_⟩;have b:zL w (w.alloc (.cells #[.string q.name,zI q.parent,.slice q.ca q.cn q.cc] 66)):=zr _ _;have a:=zh b;clear b;go_enter Tryz.func125,Tryz.ntmps125;go_wp2_with fail
 refine (ME _ q.ca q.cn q.cc q.runs (d.later a.o)).mono ?_;rintro e f ⟨rfl,c⟩;go_wp2;go_ret;exact ⟨rfl,za a.o c⟩
theorem PH (k:Nat) (p:Qu->Bool) (A:Sn k p) (w:World) (b y n s:Nat) (l:QL) (h:QsIn w (zO b y) n s l) (B:0<n) :
 zC 160 #[.slice (zO b y) n s,.func (.func k) #[] #[]] w fun e w'=>∃ r:Int,e=.returned (zI r)/\(decide (0<=r))=(!Yg p l n)/\Below w.heap.size w w':=by
 have D:=zh h.len;have J:=h.le;have G:=h.capb;obtain ⟨E,M,e,v⟩:=h.cells B;cases e
 have f:=zh v;clear v;obtain ⟨I,x⟩:=A;have q:=zh x;clear x;go_enter Tryz.func160,Tryz.ntmps160;go_wp2;go_loopw [5,8] (fun _ i wr=>∃ k:Nat,i=zI k/\k<=n/\Yg p l k=true/\zL w wr) (fun _ i _=>n-(intOf i).toNat)
 case atStart=>exact ⟨0,rfl,by omega,rfl,Below.refl _ _⟩
 case round =>
  obtain ⟨j,rfl,H,t,u⟩:=hrel;have m:=zh t;have a:=zh u;clear t u;by_cases c:j<n
  ·have L:(j:Int)<n:=(by omega);have F:=cell_later a.o (f.o j c).1;have c1:=cell_later a.o (f.o j c).2.1;have c2:=cell_later a.o (f.o j c).2.2;cases g:p (qu l j) with
   | false =>
    go_wp2_with fail
    refine (q.o (qu l j) wr (h.names j c) ((h.caps j c).later a.o)).mono ?_;rintro e C ⟨rfl,d⟩;rw [g];go_wp2;go_ret;exact ⟨_,rfl,by rw [Xg g n c];simp,za a.o d⟩
   | true =>
    go_wp2_with fail
    refine (q.o (qu l j) wr (h.names j c) ((h.caps j c).later a.o)).mono ?_;rintro e C ⟨rfl,d⟩;have z:=zh d;clear d;rw [g];go_wp2;go_roundw
    case rel=>exact ⟨j+1,by go_num,by omega,by rw [Yg,m.o,g];rfl,za a.o z.o⟩
    case measure=>simp [intOf];omega
  obtain rfl:j=n:=by omega
  go_wp2;go_ret;exact ⟨_,rfl,by rw [m.o];rfl,a.o⟩
theorem WH (k:Nat) (p:Qu->Bool) (d:Sn k p) (w:World) (a:Option Addr) (n c:Nat) (l:QL) (h:QsIn w a n c l) (f:0<n) :
 zC 120 #[.slice a n c,.func (.func k) #[] #[]] w fun e w'=>e=.returned (.bool (!Yg p l n))/\Below w.heap.size w w':=by
 obtain ⟨b,q,rfl,_⟩:=h.cells f;have i:=zh d;clear d;go_enter Tryz.func120,Tryz.ntmps120;go_wp2_with fail
 refine (PH k p i.o w b q n c l h f).mono ?_;rintro e s ⟨r,rfl,g,m⟩;have j:=zh g;clear g;go_wp2;go_ret;exact ⟨zm j.o,m⟩
def xK (l:QL):Nat->Bool
 | 0=>true
 | k+1=>xK l k&&decide (-1<=(qu l k).parent/\(qu l k).parent<k)
theorem XE {l:QL} {k:Nat} (h:¬(-1<=(qu l k).parent/\(qu l k).parent<k)):∀ n,k<n->xK l n=false
 | 0,hn=>by omega
 | n+1,hn=>by
  by_cases e:k=n
  ·subst e;rw [xK,decide_eq_false h,Bool.and_false]
  rw [xK,XE h n (by omega)];rfl
theorem Pm {l:QL}:∀ {n:Nat},xK l n=true↔∀ k,k<n->-1<=(qu l k).parent/\(qu l k).parent<k
 | 0=>by simp [xK]
 | n+1=>by
  simp only [xK,Bool.and_eq_true,Pm (n:=n),decide_eq_true_eq]
  constructor
  ·rintro ⟨a,b⟩ k c;by_cases e:k=n
   ·subst e;exact b
   exact a k (by omega)
  intro h;exact ⟨fun k c=>h k (by omega),h n (by omega)⟩
theorem Qv (w:World) (a:Option Addr) (n s:Nat) (l:QL) (h:QsIn w a n s l) (y:0<n) :
 zC 124 #[.slice a n s] w fun e w'=>e=.returned (.bool (!xK l n))/\Below w.heap.size w w':=by
 have D:=h.le;have B:=h.capb;obtain ⟨b,F,rfl,u⟩:=h.cells y;have f:=zh u;clear u;go_enter Tryz.func124,Tryz.ntmps124;go_wp2;go_loopw [3,4,7] (fun _ _ p wr=>∃ k:Nat,p=zI k/\k<=n/\xK l k=true/\zL w wr) (fun _ _ p _=>n-(intOf p).toNat)
 case atStart=>exact ⟨0,rfl,by omega,rfl,Below.refl _ _⟩
 case round =>
  obtain ⟨j,rfl,C,t,i⟩:=hrel;have r:=zh t;have c:=zh i;have m:w.heap.size<=wr.heap.size:=i.size;clear t i;by_cases d:j<n
  ·have E:(j:Int)<n:=(by omega);have x:=cell_later c.o (f.o j d).1;have c1:=cell_later c.o (f.o j d).2.1;have c2:=cell_later c.o (f.o j d).2.2;generalize v:qu l j=q at x c1 c2;have g:=zh v;clear v;by_cases z:q.parent < -1
   ·go_wp2;go_ret;exact ⟨zm (by rw [XE (k:=j) (by rw [g.o];omega) n d];rfl),c.o.alloc m _⟩
   by_cases A:(j:Int)<=q.parent
   ·go_wp2;go_ret;exact ⟨zm (by rw [XE (k:=j) (by rw [g.o];omega) n d];rfl),c.o.alloc m _⟩
   go_wp2;go_roundw
   case rel=>exact ⟨j+1,by go_num,by omega,by rw [xK,r.o,g.o,decide_eq_true (by omega)];rfl,c.o.alloc m _⟩
   case measure=>simp [intOf];omega
  obtain rfl:j=n:=by omega
  go_wp2;go_ret;exact ⟨zm (by rw [r.o];rfl),c.o⟩
def nm (l:QL) (i:Nat):List UInt8:=(qu l i).name.data.toList
def yy (l:QL) (k:Nat):Nat->Bool
 | 0=>false
 | i+1=>yy l k i||(nm l i==nm l k)
def yu (l:QL):Nat->Bool
 | 0=>true
 | k+1=>yu l k&&!yy l k k
theorem Z9 {l:QL} {k:Nat}:∀ {m:Nat},yy l k m=true↔∃ i,i<m/\nm l i=nm l k
 | 0=>by simp [yy]
 | m+1=>by
  simp only [yy,Bool.or_eq_true,Z9 (m:=m),beq_iff_eq]
  constructor
  ·rintro (⟨i,b,a⟩ | h)
   ·exact ⟨i,by omega,a⟩
   exact ⟨m,by omega,h⟩
  rintro ⟨i,b,a⟩;by_cases e:i=m
  ·subst e;exact Or.inr a
  exact Or.inl ⟨i,by omega,a⟩
theorem XM {l:QL} {k:Nat} (h:yy l k k=true):∀ n,k<n->yu l n=false
 | 0,hn=>by omega
 | n+1,hn=>by
  by_cases e:k=n
  ·subst e;rw [yu,h];simp
  rw [yu,XM h n (by omega)];rfl
theorem Rl {w w':World} {row g:Nat} (h:w.grownBy w' (some row)) (hg:g<w.heap.size) (a:g≠row) (i:Nat):w'.cell? (zA g i)=w.cell? (zA g i) :=
 World.cell?_of_block (w:=w) (h.block g hg (fun e=>a (by injection e)))
theorem Rt:Keyed Tryz.prog 9:=string_keyed Tryz.underlying9
theorem Hs (w:World):(zeroValue 3).run Tryz.prog w=.ok (zI 0) w:=by kernel_rfl
def VU (l:QL) (j:Nat) (D:DataW Unit):Prop :=
 IsMap D/\(∀ i,i<j->D.atKey (.string (nm l i)) (.lit (.int .i64 0))=.lit (.int .i64 1))/\(∀ s,(∀ i,i<j->nm l i≠s)->D.atKey (.string s) (.lit (.int .i64 0))=.lit (.int .i64 0))
theorem VU.zero (l:QL):VU l 0 (.map []):=⟨isMap_empty,fun i a=>by omega,fun s _=>rfl⟩
theorem VU.next {l:QL} {j:Nat} {D:DataW Unit} (h:VU l j D):VU l (j+1) (D.put (.string (nm l j)) (.lit (.int .i64 1))):=by
 refine ⟨h.1.put _ _,fun i c=>?_,fun s a=>?_⟩
 ·by_cases e:nm l i=nm l j
  ·rw [e,atKey_put_same h.1 (show WideAt.IsKeyLit (.string (nm l j)) from trivial)]
  rw [atKey_put_other (by intro q;injection q with q;exact e q)];exact h.2.1 i (by
   by_cases b:i=j
   ·subst b;exact absurd rfl e
   omega)
 rw [atKey_put_other (by intro q;injection q with q;exact a j (by omega) q.symm)];exact h.2.2 s (fun i c=>a i (by omega))
theorem Ol (w:World) (a:Option Addr) (n M:Nat) (l:QL) (h:QsIn w a n M l) (Y:0<n) (ad:n<=5) :
 zC 123 #[.slice a n M] w fun e w'=>e=.returned (.bool (!yu l n))/\Below w.heap.size w w':=by
 have ag:=h.le;have ae:=h.capb;obtain ⟨b,ak,rfl,P⟩:=h.cells Y;have x:=zh P;clear P;have aj:=@run_makeMap Tryz.prog;go_enter Tryz.func123,Tryz.ntmps123;go_wp2;go_loopw [5,9] (fun _ I wr=>∃ (j:Nat) (D:DataW Unit),I=zI j/\j<=n/\yu l j=true/\wr.ownsMap Tryz.prog 9 (plainElem Tryz.prog 3) w.heap.size j D/\VU l j D/\zL w wr) (fun _ I _=>n-(intOf I).toNat)
 case atStart=>exact ⟨0,.map [],rfl,by omega,rfl,World.ownsMap_made _ _ _ _,VU.zero l,zr _ _⟩
 case round =>
  obtain ⟨j,D,rfl,af,N,G,S,A⟩:=hrel;have J:=zh N;have m:=zh A;have V:=zh G;have s:=zh S;have U:w.heap.size<=wr.heap.size:=A.size;have ai:w.heap.size<wr.heap.size:=G.lt;clear N A G S;by_cases t:j<n
  ·have ah:(j:Int)<n:=(by omega);have X:=cell_later m.o (x.o j t).1;have c1:=cell_later m.o (x.o j t).2.1;have c2:=cell_later m.o (x.o j t).2.2;have p:Zh (keyOf Tryz.prog 9 (.string (qu l j).name)=some (.string (nm l j))):=keyOf_string_mk Tryz.underlying9 (h.names j t);obtain ⟨q,H⟩:=qA (qu l j);rw [H] at X c1 c2 p;have ab:=zh H;clear H;have y:=zh (V.o.alloc (.cells #[.string q.name,zI q.parent,.slice q.ca q.cn q.cc] 66));obtain ⟨c,R,O,_⟩:=y.o.lookup_int Rt Tryz.underlying201 Tryz.underlying3 (Hs _) p.o;have L:=zh O;clear O;cases g:yy l j j with
   | true =>
    have B:c=1:=by
     obtain ⟨i,E,e⟩:=Z9.1 g;have:=s.o.2.1 i E;rw [e,L.o] at this;injection this with q;injection q
    subst B;have u:True:=trivial;go_wp2_with (at_mapUpdate;have _t:=u;refine wpList_mapUpdate_own _ rfl _ _ _ 201 rfl 9 3 Rt Tryz.underlying201 _ w.heap.size j _ rfl y.o (by unfold maxLen;omega) _ _ _ rfl rfl p.o _ [] (plainElem_int Tryz.underlying3 (WalkArith.wf_i64 (by omega))) ?_;clear u)
    intro aa r f;have z:=Rl f (by simp) (show wr.heap.size≠w.heap.size by omega) 0;simp only [World.cell?_alloc_at _ _ _ _ rfl] at z;have v:=zh ((m.o.alloc U _).grown f (by simp;omega) (fun k F=>by cases F;exact Nat.le_refl _));obtain ⟨c2,Z,d,_⟩:=r.lookup_int Rt Tryz.underlying201 Tryz.underlying3 (Hs _) p.o;have C:c2=2:=by
     rw [atKey_put_same s.o.1 (show WideAt.IsKeyLit (.string (nm l j)) from trivial)] at d;injection d with q;injection q with _ q;exact q.symm
    subst C;clear r f d R;go_wp2;go_ret;exact ⟨zm (by rw [XM g n t];rfl),v.o⟩
   | false =>
    have Q:∀ i,i<j->nm l i≠nm l j:=fun i E e=>by
     have:=Z9.2 ⟨i,E,e⟩;rw [g] at this;cases this
    have B:c=0:=by
     have:=s.o.2.2 (nm l j) Q;rw [L.o] at this;injection this with q;injection q
    subst B;clear Q;have u:True:=trivial;go_wp2_with (at_mapUpdate;have _t:=u;refine wpList_mapUpdate_own _ rfl _ _ _ 201 rfl 9 3 Rt Tryz.underlying201 _ w.heap.size j _ rfl y.o (by unfold maxLen;omega) _ _ _ rfl rfl p.o _ [] (plainElem_int Tryz.underlying3 (WalkArith.wf_i64 (by omega))) ?_;clear u)
    intro aa r f;have z:=Rl f (by simp) (show wr.heap.size≠w.heap.size by omega) 0;simp only [World.cell?_alloc_at _ _ _ _ rfl] at z;have v:=zh ((m.o.alloc U _).grown f (by simp;omega) (fun k F=>by cases F;exact Nat.le_refl _));have W:=zh r;obtain ⟨c2,Z,d,_⟩:=r.lookup_int Rt Tryz.underlying201 Tryz.underlying3 (Hs _) p.o;have C:c2=1:=by
     rw [atKey_put_same s.o.1 (show WideAt.IsKeyLit (.string (nm l j)) from trivial)] at d;injection d with q;injection q with _ q;exact q.symm
    subst C;clear r f d R;go_wp2;go_roundw
    case rel=>exact ⟨j+1,_,by go_num,by omega,by rw [yu,J.o,g];rfl,W.o,s.o.next,v.o⟩
    case measure=>simp [intOf];omega
  obtain rfl:j=n:=by omega
  go_wp2;go_ret;exact ⟨zm (by rw [J.o];rfl),m.o⟩
def xC (l:QL):Bool:=Yg (fun q=>Zg q.name) l l.length
def ZX (l:QL):Bool:=Yg (fun q=>yR q.runs) l l.length
def z9 (l:QL):Int :=
 if yW l.length 1 5=true then (if xC l=true then (if yu l l.length=true then (if xK l l.length=true then (if ZX l=true then 0 else 1) else 3) else 5) else 4) else 2
theorem wF (w:World) (a:Option Addr) (n k:Nat) (l:QL) (h:QsIn w a n k l) :
 zC 78 #[.slice a n k] w fun e w'=>e=.returned (zI (z9 l))/\Below w.heap.size w w':=by
 have hn:=h.len;have H:=h.capb;have I:=h.le;cases i:yW l.length 1 5 with
 | false =>
  have f:z9 l=2:=by simp [z9,i]
  rw [f];rw [<-hn] at i;simp [yW] at i;have D:=zh hn;clear hn;by_cases E:(n:Int)<1
  ·go_enter Tryz.func78,Tryz.ntmps78;go_wp2;go_ret;exact ⟨rfl,Below.refl _ _⟩
  have F:(5:Int)<n:=by omega
  go_enter Tryz.func78,Tryz.ntmps78;go_wp2;go_ret;exact ⟨rfl,Below.refl _ _⟩
 | true =>
  have v:=i;rw [<-hn] at v;simp [yW] at v;have r:0<n:=by omega
  have G:n<=5:=by omega
  have E:¬(n:Int)<1:=by omega
  have F:¬(5:Int)<n:=by omega
  have y:Yg (fun q=>Zg q.name) l n=xC l:=by rw [xC,hn]
  have z:yu l n=yu l l.length:=by rw [hn]
  have A:xK l n=xK l l.length:=by rw [hn]
  have B:Yg (fun q=>yR q.runs) l n=ZX l:=by rw [ZX,hn]
  have m:=zh fun b (j:zL w b)=>WH 121 _ Fg b a n k l (h.later j) r;have p:=zh fun b (j:zL w b)=>Ol b a n k l (h.later j) r G;have u:=zh fun b (j:zL w b)=>Qv b a n k l (h.later j) r;have x:=zh fun b (j:zL w b)=>WH 125 _ Fh b a n k l (h.later j) r;rw [y] at m;rw [z] at p;rw [A] at u;rw [B] at x;clear v y z A B;have D:=zh hn;clear hn;cases c1:xC l with
  | false =>
   have f:z9 l=4:=(by simp [z9,i,c1]);rw [f];go_enter Tryz.func78,Tryz.ntmps78;go_wp2_with fail
   refine (m.o w (Below.refl _ _)).mono ?_;rintro e b ⟨rfl,d⟩;rw [c1];go_wp2;go_ret;exact ⟨rfl,d⟩
  | true =>
  cases c2:yu l l.length with
  | false =>
   have f:z9 l=5:=(by simp [z9,i,c1,c2]);rw [f];go_enter Tryz.func78,Tryz.ntmps78;go_wp2_with fail
   refine (m.o w (Below.refl _ _)).mono ?_;rintro e b ⟨rfl,d⟩;rw [c1];go_wp2_with fail
   refine (p.o b d).mono ?_;rintro e s ⟨rfl,c⟩;have c:=za d c;rw [c2];go_wp2;go_ret;exact ⟨rfl,c⟩
  | true =>
  cases c3:xK l l.length with
  | false =>
   have f:z9 l=3:=(by simp [z9,i,c1,c2,c3]);rw [f];go_enter Tryz.func78,Tryz.ntmps78;go_wp2_with fail
   refine (m.o w (Below.refl _ _)).mono ?_;rintro e b ⟨rfl,d⟩;rw [c1];go_wp2_with fail
   refine (p.o b d).mono ?_;rintro e s ⟨rfl,c⟩;have c:=za d c;rw [c2];go_wp2_with fail
   refine (u.o s c).mono ?_;rintro e C ⟨rfl,g⟩;have g:=za c g;rw [c3];go_wp2;go_ret;exact ⟨rfl,g⟩
  | true =>
   have f:z9 l=if ZX l=true then 0 else 1:=(by simp [z9,i,c1,c2,c3]);rw [f];cases c4:ZX l
   all_goals
    go_enter Tryz.func78,Tryz.ntmps78;go_wp2_with fail
    refine (m.o w (Below.refl _ _)).mono ?_;rintro e b ⟨rfl,d⟩;rw [c1];go_wp2_with fail
    refine (p.o b d).mono ?_;rintro e s ⟨rfl,c⟩;have c:=za d c;rw [c2];go_wp2_with fail
    refine (u.o s c).mono ?_;rintro e C ⟨rfl,g⟩;have g:=za c g;rw [c3];go_wp2_with fail
    refine (x.o C g).mono ?_;rintro e J ⟨rfl,t⟩;have t:=za g t;rw [c4];go_wp2;go_ret;exact ⟨yK (by rfl),t⟩
theorem Fm {l:QL} (a:yW l.length 1 5=true) (h:xC l=false):z9 l=4:=by simp [z9,a,h]
theorem Fn {l:QL} (b:yW l.length 1 5=true) (a:xC l=true) (h:yu l l.length=false):z9 l=5:=by simp [z9,b,h,a]
theorem Fl {l:QL} (c:yW l.length 1 5=true) (a:xC l=true) (b:yu l l.length=true) (h:xK l l.length=false):z9 l=3:=by simp [z9,c,h,a,b]
theorem Fk {l:QL} (d:yW l.length 1 5=true) (a:xC l=true) (b:yu l l.length=true) (c:xK l l.length=true) (h:ZX l=false):z9 l=1:=by simp [z9,d,h,a,b,c]
theorem Fj {l:QL} (d:yW l.length 1 5=true) (a:xC l=true) (b:yu l l.length=true) (c:xK l l.length=true) (h:ZX l=true):z9 l=0:=by simp [z9,d,h,a,b,c]
theorem QE {l:QL} {k i:Nat} (a:i<k) (h:(nm l i==nm l k)=true):yy l k k=true:=Z9.2 ⟨i,a,eq_of_beq h⟩
def Lj (l:QL) (q:Int):Int:=if z9 l=0 then (if 0<=q/\q<l.length then 0 else 6) else z9 l
theorem IZ {l:QL} {q:Int} (h:¬z9 l=0):Lj l q=z9 l:=if_neg h
theorem Jp {l:QL} {q:Int} (h:z9 l=0) (a:¬(0<=q/\q<l.length)):Lj l q=6:=by rw [Lj,if_pos h,if_neg a]
theorem L0 {l:QL} {q:Int} (h:z9 l=0) (a:0<=q/\q<l.length):Lj l q=0:=by rw [Lj,if_pos h,if_pos a]
structure Right (l:QL):Prop where
 pos:0<l.length
 five:l.length<=5
 par:∀ k,k<l.length->-1<=(qu l k).parent/\(qu l k).parent<k
theorem yY {l:QL} (h:z9 l=0):Right l:=by
 unfold z9 at h;by_cases a:yW l.length 1 5=true
 ·rw [if_pos a] at h;have e:=of_decide_eq_true a;by_cases b:xC l=true
  ·rw [if_pos b] at h;by_cases c:yu l l.length=true
   ·rw [if_pos c] at h;by_cases d:xK l l.length=true
    ·exact ⟨by omega,by omega,Pm.1 d⟩
    rw [if_neg d] at h;omega
   rw [if_neg c] at h;omega
  rw [if_neg b] at h;omega
 rw [if_neg a] at h;omega
def YI (l:QL):Nat->Int->List Int
 | 0,_=>[]
 | f+1,q=>if 0<=q then q::YI l f (qu l q.toNat).parent else []
theorem UB {l:QL} (a:Right l):∀ (f:Nat) (q:Int),q<l.length->q<f->YI l (f+1) q=YI l f q
 | 0,q,_,h=>by show (if 0<=q then q::YI l 0 (qu l q.toNat).parent else [])=[];rw [if_neg (by omega)]
 | f+1,q,h1,h2=>by
  rw [YI]
  conv=>rhs;rw [YI]
  by_cases g:0<=q
  ·rw [if_pos g,if_pos g];have:=a.par q.toNat (by omega);rw [UB a f _ (by omega) (by omega)]
  rw [if_neg g,if_neg g]
def zK (l:QL) (q:Int):List Int:=YI l 5 q
theorem Y8 {l:QL} (a:Right l) {q:Int} (b:0<=q) (c:q<l.length):zK l q=q::zK l (qu l q.toNat).parent:=by
 have:=a.five;show YI l 5 q=_;rw [<-UB a 5 q c (by omega),YI,if_pos b];rfl
theorem WZ {l:QL} {q:Int} (h:q<0):zK l q=[]:=by
 show YI l 5 q=_;rw [YI,if_neg (by omega)]
theorem Pf (l:QL):∀ f q,(YI l f q).length<=f
 | 0,_=>Nat.le_refl _
 | f+1,q=>by
  rw [YI]
  split
  ·have:=Pf l f (qu l q.toNat).parent;simp;omega
  simp
theorem WY (l:QL) (q:Int):(zK l q).length<=5:=Pf l 5 q
structure IntsIn (w:World) (a:Option Addr) (n cap:Nat) (l:List Int):Prop where
 len:n=l.length
 le:n<=cap
 capb:cap<=9223372036854775807
 cells:0<n->∃ b off,a=zO b off/\∀ i,i<n->w.cell? (zA b (off+i))=some (zI (l.getD i 0))
theorem IntsIn.later {w w':World} {a:Option Addr} {n c:Nat} {l:List Int} (h:IntsIn w a n c l) (e:Below w.heap.size w w'):IntsIn w' a n c l:=by
 refine ⟨h.len,h.le,h.capb,fun j=>?_⟩;obtain ⟨b,k,d,f⟩:=h.cells j;exact ⟨b,k,d,fun i g=>cell_later e (f i g)⟩
theorem M3 (w:World):IntsIn w none 0 0 []:=⟨rfl,Nat.le_refl _,by simp,fun h=>by simp at h⟩
def zG (w:World) (B:Nat) (v:Value) (l:List Int):Prop:=w.ownsRow B 3 1 v l.length (l.map (Value.int .i64))
theorem zG.parts {w:World} {B:Nat} {v:Value} {l:List Int} (h:zG w B v l):∃ a b,v=.slice a l.length b/\IntsIn w a l.length b l:=by
 have d:=h;rcases d.2 with ⟨c,hn⟩ | ⟨g,b,m,c,hg,n,k,e,o,p⟩
 ·have j:l=[]:=List.eq_nil_of_length_eq_zero hn;subst j;exact ⟨none,0,by simpa using c,M3 w⟩
 subst c;refine ⟨zO g 0,b,rfl,⟨rfl,k,e,fun _=>⟨g,0,rfl,fun i f=>?_⟩⟩⟩;rw [Nat.zero_add];refine (World.ownsRow.cellAt h i (by omega)).trans ?_;simp [List.getElem?_eq_getElem f]
theorem Tryz.info3:(Tryz.prog.info? 3).map (fun i=>(i.zero,i.size,i.bytes))=some (some (zI 0),1,8):=by kernel_rfl
theorem Gt (w:World) (p:Value) (t:TypeId):∀ (j:Nat) (u:Value),[p][j]?=some u->(w.alloc (.cells #[p] t)).cell? (((zA w.heap.size 0):Addr).add j)=some u:=by
 intro j u a
 match j,a with
 | 0,a=>simp at a;subst a;simp [Addr.add]
theorem Gu (p:Int):∀ u∈[Value.int .i64 p],u.oneCell'=true:=by
 intro u a;simp at a;subst a;rfl
theorem Jc {B:Nat} {w b a:World} {v c:Value} {o:Obj} {l:List Int} {x:Int} (e:Below B w b) (d:B<=b.heap.size) (h:zG b B v l)
 (g:a.ownsRow B 3 1 c (l.length+1) (l.map (Value.int .i64)++[zI x])) (hg:(b.alloc o).grownBy a v.ownBlock) :
 zG a B c (l++[x])/\Below B w a/\B<=a.heap.size:=by
 refine ⟨by unfold zG;simpa using g,(e.alloc d o).grown hg (by simp;omega) (fun k f=>(h.lt k f).1),?_⟩;have:=hg.size;simp at this;omega
def WS (zs:List Int) (q:Int):Nat->Bool
 | 0=>false
 | k+1=>WS zs q k||(zs.getD k 0==q)
theorem Rm {zs:List Int} {q:Int} {k:Nat} (h:(zs.getD k 0==q)=true):∀ n,k<n->WS zs q n=true
 | 0,hn=>by omega
 | n+1,hn=>by
  by_cases e:k=n
  ·subst e;rw [WS,h];simp
  rw [WS,Rm h n (by omega)];rfl
def yG (l:QL) (k q:Int):Bool:=WS (zK l k) q (zK l k).length
structure BoolsIn (w:World) (a:Option Addr) (n cap:Nat) (l:List Bool):Prop where
 len:n=l.length
 le:n<=cap
 capb:cap<=9223372036854775807
 cells:0<n->∃ b off,a=zO b off/\∀ i,i<n->w.cell? (zA b (off+i))=some (.bool (l.getD i false))
theorem BoolsIn.later {w w':World} {a:Option Addr} {n c:Nat} {l:List Bool} (h:BoolsIn w a n c l) (e:Below w.heap.size w w'):BoolsIn w' a n c l:=by
 refine ⟨h.len,h.le,h.capb,fun j=>?_⟩;obtain ⟨b,k,d,f⟩:=h.cells j;exact ⟨b,k,d,fun i g=>cell_later e (f i g)⟩
def UY (l:QL) (n:Nat) (q:Int):List Bool:=(List.range n).map fun (k:Nat)=>yG l (k:Int) q
theorem N4 (l:QL) (n:Nat) (q:Int):(UY l n q).length=n:=by simp [UY]
theorem Sa (l:QL) (n:Nat) (q:Int) (k:Nat) (h:k<n):(UY l n q).getD k false=yG l (k:Int) q:=by simp [UY,List.getD,h]
theorem Tryz.info4:(Tryz.prog.info? 4).map (fun i=>(i.zero,i.size,i.bytes))=some (some (.bool false),1,1):=by kernel_rfl
theorem Km {w:World} {g n:Nat} {f:Nat->Value} {l:List Bool} (hn:n=l.length) (h:w.rowIs g 4 n f) (b:∀ i,i<n->f i=.bool (l.getD i false)) (c:n<=5):BoolsIn w (zO g 0) n n l :=
 ⟨hn,Nat.le_refl _,by omega,fun _=>⟨g,0,rfl,fun i a=>by rw [Nat.zero_add,h.cell a,b i a]⟩⟩
def YO (n₀ Bl:Nat) (A B:World):Prop:=Below n₀ A B/\∀ v,Boxed A Bl 37 v->Boxed B Bl 37 v
theorem YO.trans {b a:Nat} {c B C:World} (h:YO b a c B) (k:YO b a B C):YO b a c C:=⟨h.1.trans k.1,fun v d=>k.2 v (h.2 v d)⟩
theorem Rs {g c:Nat} {w:World} (hn:g<=w.heap.size) (a:World) (l:Nat) (o b:Obj) (j:w.heap.size<=l) (h:a.heap[l]?=some o) (d:o.isCells=false) (i:o.isWalk=false):YO g c a (a.putObj l b) :=
 ⟨belowK_b hn a l o b j h d i,fun v f=>f.kept (grownBy_putObj' a l b) (fun e=>by
  injection e with e;subst e;rw [show a.heap[c]?=_ from f] at h;cases h
  cases d)⟩
theorem Hh (F:Fence) (n:Nat) (b:F.fn 81) (d:F.round=none) (v:Value) (q:Int) (w:World) (f:∃ a m c,v=.slice a m c) :
 CallsIn F n Tryz.prog 81 #[v,zI q] w fun e w'=>e=.returned (.func (.func 130) #[] #[.pointer (zO (w.heap.size+1) 0),.pointer (zO w.heap.size 0)])/\w'=(w.alloc (.cells #[v] 37)).alloc (.cells #[zI q] 3):=by
 obtain ⟨a,m,c,rfl⟩:=f;refine callsIn_of_wp Tryz.func81 rfl b ?_ d;simp only [Tryz.ntmps81,List.size_toArray,List.length_cons,List.length_nil,Nat.reduceAdd,Nat.reduceSub,Array.replicate_succ,Array.replicate_zero,List.push_toArray,List.append_toArray,List.nil_append,List.cons_append]
 gi_wp2
 go_ret;exact ⟨rfl,rfl⟩
theorem Ft (F:Fence) (n:Nat) (Y:F.fn 130) (am:F.round=none) (hn:1<=n) (N w k u b j d B:Nat) (l:QL) (q:Int) (G:Right l) (E:d=l.length) (al:q<d) (g A:List Int->World->Prop)
 (af:∀ a x c,g a c->a.length<5->YieldAt F (n-1) Tryz.prog N #[zI x] c fun e f =>
  (e=.returned (.bool true)/\g (a++[x]) f/\YO u k c f)\/(e=.returned (.bool false)/\A (a++[x]) f))
 (c:World) (ap:c.cell? (zA w 0)=some (zI q)) (Z:Boxed c k 37 (.slice (zO b j) d B)) (ag:b<u)
 (J:∀ i,i<d->c.cell? (zA b (j+i*3+1))=some (zI (qu l i).parent)) (X:g [] c) :
 CallsIn F n Tryz.prog 130 #[.func (.yield N) #[] #[],.pointer (zO w 0),.pointer (zO k 0)] c fun e f=>(∃ v,e=.returned v) /\
  ((∃ O,O=zK l q/\g O f)\/(∃ a,a <+: zK l q/\A a f)):=by
 have z:=zh G;have y:=zh E;have S:=zh J;clear G E J;refine callsIn_of_wp Tryz.func130 rfl Y ?_ am;simp only [Tryz.ntmps130,List.size_toArray,List.length_cons,List.length_nil,Nat.reduceAdd,Nat.reduceSub,Array.replicate_succ,Array.replicate_zero,List.push_toArray,List.append_toArray,List.nil_append,List.cons_append]
 gi_wp2
 gi_loopw [4] (fun p wr=>∃ (a:List Int) (x:Int),p=zI x/\x<d/\a++zK l x=zK l q/\Boxed wr k 37 (.slice (zO b j) d B)/\Below u c wr/\g a wr)
  (fun p _=>(intOf p+1).toNat)
 case atStart=>exact ⟨[],q,rfl,al,rfl,Z,Below.refl _ _,X⟩
 case round =>
  obtain ⟨a,x,rfl,ar,L,ah,H,D⟩:=hrel;have r:=zh L;have Q:=zh H;clear L H;by_cases an:0<=x
  ·obtain ⟨P,rfl⟩:=Int.eq_ofNat_of_zero_le an;have ad:P<d:=(by omega);have aq:(P:Int)<d:=(by omega);have ak:=z.o.par P (by have:=y.o;omega);have h:=zh (Y8 z.o (q:=(P:Int)) (by omega) (by have:=y.o;omega));rw [Int.toNat_natCast] at h;have ai:a.length<5:=by
    have C:=WY l q;rw [<-r.o,h.o] at C;simp at C;omega
   obtain ⟨m,t⟩:=qA ((qu l P).parent);have V:=zh t;rw [t] at ak h;clear t;obtain ⟨fn,tmps,assign,body,au,ae⟩:=af a P wr D ai
   gi_wp2
   refine ae.mono ?_;rintro e W (⟨rfl,aa,M⟩ | ⟨rfl,ab⟩)
   ·have I:=M.2 _ ah;have s:=Q.o.trans M.1;have c1:W.cell? (zA b (j+P*3+1))=some (zI m):=(s.cell (p:=(zA b (j+P*3+1))) ag).trans (by rw [S.o P ad,V.o]);have ao:=I.cell;have R:=zh s;clear s
    gi_wp2
    go_roundw
    case rel=>exact ⟨a++[(P:Int)],m,rfl,by omega,by rw [<-r.o,h.o];simp,I,R.o,aa⟩
    case measure=>simp [intOf];omega
   gi_wp2
   refine bodyPost_ret (results_none rfl _ _ _) rfl ?_;exact ⟨⟨_,rfl⟩,.inr ⟨a++[(P:Int)],⟨zK l m,by rw [<-r.o,h.o];simp⟩,ab⟩⟩
  have aj:=WZ (l:=l) (q:=x) (by omega);have U:Zh (a=zK l q):=by have:=r.o;rw [aj,List.append_nil] at this;exact this
  gi_wp2
  go_end0
  exact ⟨⟨_,rfl⟩,.inl (by rw [<-U.o];exact D)⟩
theorem Hj (F:Fence) (n:Nat) (u:F.fn 130) (E:F.round=none) (hn:1<=n) (d a e b f c h:Nat) (l:QL) (q:Int) (y:Right l) (v:c=l.length) (D:q<c) (w:World)
 (k:Boxed w d 3 (zI q)) (j:Boxed w a 37 (.slice (zO b f) c h)) (C:e<=w.heap.size) (m:b<e)
 (A:∀ i,i<c->w.cell? (zA b (f+i*3+1))=some (zI (qu l i).parent)) :
 SeqStopsK F n Tryz.prog 130 #[.pointer (zO d 0),.pointer (zO a 0)] (fun x:Int=>#[Value.int .i64 x]) (YO e a) (fun I=>I=zK l q) (fun H=>H <+: zK l q) 5 w:=fun G o r s g _ _ z t =>
 Ft F n u E hn G d a e b f c h l q y v D o r z s ((g.cell (p:=(zA d 0)) k.lt).trans k.cell) ((g.block a j.lt).trans j) m
  (fun i B=>(g.cell (p:=(zA b (f+i*3+1))) (Nat.lt_of_lt_of_le m C)).trans (A i B)) t
theorem zG.base {w:World} {B a:Nat} {v:Value} {l:List Int} (h:zG w B v l) (i:a<=B):zG w a v l:=by
 refine ⟨h.1,?_⟩;rcases h.2 with d | ⟨g,b,c,f,hg,e⟩
 ·exact Or.inl d
 exact Or.inr ⟨g,b,c,f,by omega,e⟩
theorem Uz {F:Fence} {n:Nat} {P:Program} {fn:Func} {tmps:Array Value} {g:Ending->World->Prop} (B:Nat):∀ (b:List Nat) (a:World),B<=a.heap.size->b.Nodup->(∀ D∈b,B<=D/\a.heap[D]?=some (.deferred (some []))) ->
 (∀ c,Below B a c->LeavesIn F n P fn tmps g [] .returning c)->LeavesInM F n P fn tmps g (b.map fun D=>{ target:=.collected D,args:=#[] }) .returning a
 | [],a,_,_,_,h=>h a (Below.refl _ _)
 | D::b,a,hB,hnd,hm,h=>by
  have i:=hm D (by simp);have j:Below B a (a.putObj D (.deferred none)):=(Below.refl B a).grown (grownBy_putObj' a D _) hB (fun k e=>by cases e;exact i.1);rw [List.nodup_cons] at hnd;refine ⟨by simp,.inl ⟨D,_,rfl,run_takeDeferred i.2,Uz B b _ (Nat.le_trans hB j.size) hnd.2 (fun f d=>⟨(hm f (by simp [d])).1,?_⟩) (fun c l=>h c (j.trans l))⟩⟩;rw [World.putObj_heap_other (fun e=>by subst e;exact hnd.1 d)];exact (hm f (by simp [d])).2
structure After (W0 W':World) (G n:Nat) (g:Nat->Value):Prop where
 os:W'.os=W0.os
 tape:W'.tape=W0.tape
 output:W'.output=W0.output
 size:W0.heap.size<=W'.heap.size
 block:∀ k,k<W0.heap.size->k≠G->W'.heap[k]?=W0.heap[k]?
 row:W'.rowIs G 4 n g
theorem After.own {i:Type} {W0:World} {b n B:Nat} {g:Nat->Value} (l:W0.heap.size<=B) (m:b<W0.heap.size):OwnFrom B (fun (_:i) f=>After W0 f b n g):=fun _ X j row a hg d =>
 ⟨hg.os.trans a.os,hg.tape.trans a.tape,hg.output.trans a.output,Nat.le_trans a.size hg.size,
  fun k c h=>(hg.block k (Nat.lt_of_lt_of_le c a.size) (fun e=>by have:=(d k e.symm).1;omega)).trans (a.block k c h),
  a.row.of_block (hg.block b a.row.lt (fun e=>by have:=(d b e.symm).1;omega))⟩
theorem After.box {W0 b:World} {a n:Nat} {g:Nat->Value} (h:After W0 b a n g) {B t:Nat} {v:Value} (c:Boxed W0 B t v) (d:B≠a):Boxed b B t v:=(h.block B c.lt d).trans c
theorem After.hit {W0 b:World} {a n:Nat} {g:Nat->Value} (h:After W0 b a n g) (j:Nat) (v:Value):After W0 (b.setCell (zA a j) v) a n (fun i=>if i=j then v else g i) :=
 ⟨h.os,h.tape,h.output,by rw [show (b.setCell (zA a j) v).heap.size=b.heap.size by simp [World.setCell]];exact h.size,
  fun k d c=>(Below.heap_setCell _ _ _ k c).trans (h.block k d c),h.row.set j v⟩
theorem After.below {W0 b:World} {a n B:Nat} {g:Nat->Value} (h:After W0 b a n g) (c:B<=a) (e:a<W0.heap.size):Below B W0 b :=
 ⟨h.os,h.tape,h.output,h.size,fun k d=>h.block k (by omega) (by omega)⟩
def FD (wq w1s b off n cap:Nat) (l:QL) (q:Int) (W1:World) (a:Act) (W:World):Prop :=
 ∃ (j:Nat) (f:Nat->Value) (ds:List Nat) (u8 u22 u23 u24 u25 u26 u34:Value),a={ tmps:=#[.slice (zO b off) n cap,zI q,undef,.pointer (zO wq 0),zN,zI 0,zI 0,.pointer (zO (w1s+1) 0),u8,undef,.slice (zO b off) n cap,zI q,zI 0,zI 0,.bool false,undef,.slice (zO b off) n cap,zI n,.slice (zO w1s 0) n n,.slice (zO b off) n cap,zI n,zI j,u22,u23,u24,u25,u26,undef,undef,undef,undef,undef,undef,undef,u34,undef],defers:=ds.map fun D=>{ target:=.collected D,args:=#[] } } /\
  j<=n/\After W1 W w1s n f/\(∀ i,i<j->f i=.bool (yG l (i:Int) q))/\(∀ i,j<=i->i<n->f i=.bool false)/\(∀ D∈ds,w1s+2<=D/\D<W.heap.size/\W.heap[D]?=some (.deferred (some [])))/\ds.Nodup
def FW (n:Nat) (a:Act) (_:World):Nat:=n-(intOf (a.tmps.getD 21 undef)).toNat
theorem Qd {J d b r n o:Nat} {l:QL} {q:Int} {v h W0 u:World} {j D:Nat} {f g:Nat->Value} {s:List Nat} {u8 C E F G H I:Value} (N:j<n) (p:After v h d n f) (a:Below h.heap.size h W0) (c:After W0 u d n g) (V:d+2<=h.heap.size) (U:v.heap.size=d+2)
 (P:∀ i,i<j->f i=.bool (yG l (i:Int) q)) (M:∀ i,j<=i->i<n->f i=.bool false) (A:∀ D∈s,d+2<=D/\D<h.heap.size/\h.heap[D]?=some (.deferred (some []))) (Q:s.Nodup)
 (R:W0.heap.size<=D) (y:u.heap[D]?=some (.deferred (some []))) (hg:g j=.bool (yG l (j:Int) q)) (z:∀ i,i≠j->g i=f i) :
 FD J d b r n o l q v { tmps:=#[.slice (zO b r) n o,zI q,undef,.pointer (zO J 0),zN,zI 0,zI 0,.pointer (zO (d+1) 0),u8,undef,.slice (zO b r) n o,zI q,zI 0,zI 0,.bool false,undef,.slice (zO b r) n o,zI n,.slice (zO d 0) n n,.slice (zO b r) n o,zI n,zI ((j:Int)+1),C,E,F,G,H,undef,undef,undef,undef,undef,undef,undef,I,undef],defers:={ target:=.collected D,args:=#[] }::(s.map fun D=>{ target:=.collected D,args:=#[] }) } u:=by
 refine ⟨j+1,g,D::s,u8,C,E,F,G,H,I,by simp,N,?_,fun i S=>?_,fun i x w=>?_,fun t m=>?_,?_⟩
 ·exact ⟨c.os.trans (a.os.trans p.os),c.tape.trans (a.tape.trans p.tape),c.output.trans (a.output.trans p.output),Nat.le_trans p.size (Nat.le_trans a.size c.size),
   fun k O B=>(c.block k (by have:=a.size;omega) B).trans ((a.block k (by omega)).trans (p.block k O B)),c.row⟩
 ·by_cases e:i=j
  ·subst e;exact hg
  rw [z i e];exact P i (by omega)
 ·rw [z i (by omega)];exact M i (by omega) w
 ·rw [List.mem_cons] at m;rcases m with rfl | m
  ·exact ⟨by have:=a.size;omega,(Array.getElem?_eq_some_iff.1 y).1,y⟩
  obtain ⟨x,w,L⟩:=A t m;exact ⟨x,by have:=a.size;have:=c.size;omega,(c.block t (by have:=a.size;omega) (by omega)).trans ((a.block t w).trans L)⟩
 ·rw [List.nodup_cons];exact ⟨fun m=>by have:=(A D m).2.1;have:=a.size;omega,Q⟩
theorem Pc {zs:List Int} {q:Int}:∀ {k:Nat},WS zs q k=true↔∃ i,i<k/\zs.getD i 0=q
 | 0=>by simp [WS]
 | k+1=>by
  simp only [WS,Bool.or_eq_true,Pc (k:=k),beq_iff_eq]
  constructor
  ·rintro (⟨i,b,a⟩ | h)
   ·exact ⟨i,by omega,a⟩
   exact ⟨k,by omega,h⟩
  rintro ⟨i,b,a⟩;by_cases e:i=k
  ·subst e;exact Or.inr a
  exact Or.inl ⟨i,by omega,a⟩
theorem Wu {l:QL} {k q:Int}:yG l k q=true↔q∈zK l k:=by
 rw [yG,Pc]
 constructor
 ·rintro ⟨i,a,b⟩;rw [<-b,List.getD,List.getElem?_eq_getElem a];exact List.getElem_mem a
 intro h;obtain ⟨i,a,b⟩:=List.mem_iff_getElem.1 h;exact ⟨i,a,by rw [List.getD,List.getElem?_eq_getElem a];exact b⟩
theorem Lu {l:QL} {k q:Int} (h:∀ x∈zK l k,x≠q):yG l k q=false:=by
 cases g:yG l k q with
 | false=>rfl
 | true=>exact absurd rfl (h q (Wu.1 g))
def GC:ByteArray:=⟨#[97,108,108]⟩
def Oj:ByteArray:=⟨#[110,111,114,116,104]⟩
def Ok:ByteArray:=⟨#[115,111,117,116,104]⟩
def L3:ByteArray:=⟨#[98,97,114,110]⟩
def fL (c:Nat) (p m:Int):QL:=[⟨GC,-1,zO c 0,1,1,[(0,10)]⟩,⟨Oj,p,zO (c+1) 0,2,2,[(0,8),(20,4)]⟩,⟨Ok,0,zO (c+2) 0,1,1,[(0,m)]⟩,⟨L3,1,zO (c+3) 0,1,1,[(0,8)]⟩]
def MQ (c:Nat) (p:Int):Array Value:=#[.string GC,zI (-1),.slice (zO c 0) 1 1,.string Oj,zI p,.slice (zO (c+1) 0) 2 2,.string Ok,zI 0,.slice (zO (c+2) 0) 1 1,.string L3,zI 1,.slice (zO (c+3) 0) 1 1]
structure FieldIn (w:World) (c:Nat) (p m:Int):Prop where
 b0:w.heap[c]?=some (.cells #[zI 0,zI 10] 55 (0,0))
 b1:w.heap[c+1]?=some (.cells #[zI 0,zI 8,zI 20,zI 4] 55 (0,0))
 b2:w.heap[c+2]?=some (.cells #[zI 0,zI m] 55 (0,0))
 b3:w.heap[c+3]?=some (.cells #[zI 0,zI 8] 55 (0,0))
 b4:w.heap[c+4]?=some (.cells (MQ c p) 66 (0,0))
theorem xG {w:World} {g:Nat} {cs:Array Value} {t:TypeId} (h:w.heap[g]?=some (.cells cs t (0,0))) (l:zd) (n:Nat) (d:cs.toList=cellsOf l) (hn:n=l.length) (f:l.length<=48):RunsIn w (zO g 0) n n l:=by
 refine ⟨hn,Nat.le_refl _,by omega,by omega,fun _=>⟨g,0,rfl,fun i j=>?_⟩,fun _ b k e=>by cases e;exact Or.inr ⟨cs,t,h⟩⟩;rw [cell_of_row w g _ _ _ _ h,cell_of_row w g _ _ _ _ h];have a:=xr l i (by omega);have c:=xJ l i (by omega);rw [<-d] at a c;simp only [Array.getElem?_toList] at a c;rw [Nat.zero_add];exact ⟨a,c⟩
theorem FieldIn.qs {w:World} {c:Nat} {p m:Int} (h:FieldIn w c p m):QsIn w (zO (c+4) 0) 4 4 (fL c p m):=by
 refine ⟨rfl,Nat.le_refl _,by omega,fun _=>⟨c+4,0,rfl,fun i a=>?_⟩,fun i a=>?_,fun i a=>?_,fun _ b d e=>by cases e;exact Or.inr ⟨_,_,h.b4⟩⟩
 ·rw [cell_of_row w _ _ _ _ _ h.b4,cell_of_row w _ _ _ _ _ h.b4,cell_of_row w _ _ _ _ _ h.b4]
  match i,a with
  | 0,_=>exact ⟨rfl,rfl,rfl⟩
  | 1,_=>exact ⟨rfl,rfl,rfl⟩
  | 2,_=>exact ⟨rfl,rfl,rfl⟩
  | 3,_=>exact ⟨rfl,rfl,rfl⟩
 ·match i,a with
  | 0,_=>exact xG h.b0 [(0,10)] 1 rfl rfl (by decide)
  | 1,_=>exact xG h.b1 [(0,8),(20,4)] 2 rfl rfl (by decide)
  | 2,_=>exact xG h.b2 [(0,m)] 1 rfl rfl (by simp)
  | 3,_=>exact xG h.b3 [(0,8)] 1 rfl rfl (by decide)
 match i,a with
 | 0,_=>show GC.size<=9223372036854775807;decide
 | 1,_=>show Oj.size<=9223372036854775807;decide
 | 2,_=>show Ok.size<=9223372036854775807;decide
 | 3,_=>show L3.size<=9223372036854775807;decide
theorem FieldIn.later {w w':World} {c:Nat} {p m:Int} (h:FieldIn w c p m) (a:Below w.heap.size w w'):FieldIn w' c p m:=by
 have b:c+4<w.heap.size:=(Array.getElem?_eq_some_iff.1 h.b4).1;exact ⟨(a.block _ (by omega)).trans h.b0,(a.block _ (by omega)).trans h.b1,(a.block _ (by omega)).trans h.b2,(a.block _ (by omega)).trans h.b3,(a.block _ (by omega)).trans h.b4⟩
theorem FieldIn.parent {w:World} {c:Nat} {p m:Int} (h:FieldIn w c p m) (a:Int):FieldIn (w.setCell (zA (c+4) 4) (zI a)) c a m:=by
 refine ⟨(heap_setCell_other _ _ _ _ (by simp)).trans h.b0,(heap_setCell_other _ _ _ _ (by simp)).trans h.b1,(heap_setCell_other _ _ _ _ (by simp)).trans h.b2,(heap_setCell_other _ _ _ _ (by simp)).trans h.b3,?_⟩;rw [heap_setCell_same _ _ _ _ _ _ h.b4];rfl
theorem FieldIn.cap {w:World} {c:Nat} {p m:Int} (h:FieldIn w c p m) (a:Int):FieldIn (w.setCell (zA (c+2) 1) (zI a)) c p a:=by
 refine ⟨(heap_setCell_other _ _ _ _ (by simp)).trans h.b0,(heap_setCell_other _ _ _ _ (by simp)).trans h.b1,?_,(heap_setCell_other _ _ _ _ (by simp)).trans h.b3,(heap_setCell_other _ _ _ _ (by simp)).trans h.b4⟩;rw [heap_setCell_same _ _ _ _ _ _ h.b2];rfl
theorem Iz (w:World) (a b c d e:Obj):(((((w.alloc a).alloc b).alloc c).alloc d).alloc e).heap[w.heap.size]?=some a/\(((((w.alloc a).alloc b).alloc c).alloc d).alloc e).heap[w.heap.size+1]?=some b /\
 (((((w.alloc a).alloc b).alloc c).alloc d).alloc e).heap[w.heap.size+2]?=some c/\(((((w.alloc a).alloc b).alloc c).alloc d).alloc e).heap[w.heap.size+3]?=some d/\(((((w.alloc a).alloc b).alloc c).alloc d).alloc e).heap[w.heap.size+4]?=some e:=by
 have k:(w.alloc a).heap.size=w.heap.size+1:=by simp
 have l:((w.alloc a).alloc b).heap.size=w.heap.size+2:=by simp
 have m:(((w.alloc a).alloc b).alloc c).heap.size=w.heap.size+3:=by simp
 have n:((((w.alloc a).alloc b).alloc c).alloc d).heap.size=w.heap.size+4:=by simp
 have j:=heap_alloc_new w a;have f:=heap_alloc_new (w.alloc a) b;have g:=heap_alloc_new ((w.alloc a).alloc b) c;have h:=heap_alloc_new (((w.alloc a).alloc b).alloc c) d;have i:=heap_alloc_new ((((w.alloc a).alloc b).alloc c).alloc d) e;rw [k] at f;rw [l] at g;rw [m] at h;rw [n] at i;refine ⟨?_,?_,?_,?_,i⟩
 ·rw [Below.heap_alloc _ _ _ (by omega),Below.heap_alloc _ _ _ (by omega),Below.heap_alloc _ _ _ (by omega),Below.heap_alloc _ _ _ (by omega)];exact j
 ·rw [Below.heap_alloc _ _ _ (by omega),Below.heap_alloc _ _ _ (by omega),Below.heap_alloc _ _ _ (by omega)];exact f
 ·rw [Below.heap_alloc _ _ _ (by omega),Below.heap_alloc _ _ _ (by omega)];exact g
 ·rw [Below.heap_alloc _ _ _ (by omega)];exact h
theorem MX (w:World) (a b c d e:Obj):Below w.heap.size w (((((w.alloc a).alloc b).alloc c).alloc d).alloc e) :=
 (((((Below.refl _ w).alloc (Nat.le_refl _) _).alloc (by simp) _).alloc (by simp;omega) _).alloc (by simp;omega) _).alloc (by simp;omega) _
theorem Q7 (w:World):zC 37 #[] w fun e w'=>e=.returned (.slice (zO (w.heap.size+4) 0) 4 4)/\FieldIn w' w.heap.size 0 6/\Below w.heap.size w w':=by
 go_enter Tryz.func37,Tryz.ntmps37;go_wp2;go_ret;obtain ⟨a,b,c,d,f⟩:=Iz w (.cells #[zI 0,zI 10] 55) (.cells #[zI 0,zI 8,zI 20,zI 4] 55) (.cells #[zI 0,zI 6] 55) (.cells #[zI 0,zI 8] 55) (.cells (MQ w.heap.size 0) 66);exact ⟨rfl,⟨a,b,c,d,f⟩,MX w _ _ _ _ _⟩
theorem Ey (w:World):QsIn w none 0 0 []:=⟨rfl,Nat.le_refl _,by simp,fun h=>by simp at h,fun i a=>by omega,fun i a=>by omega,fun h=>by simp at h⟩
end Go.Proofs.YtckpdfkobdgjeaaGreatDoor
