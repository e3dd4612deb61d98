/- Several texts in one: TreeA, TreeB, TreeC, TreeD, TreeE, TreeF, TreeG, TreeH, TreeI, TreeJ. -/
import Derived.Maps.Own
import Derived.Maps.OwnOps
import Derived.Maps.Views
import Derived.Deep.OwnRows
import Derived.RangeFuncNested
import Derived.RangeFuncBox
import Derived.RangeFuncLeaves
import Derived.Shelf.Abstract
import Derived.WalkKit
import Derived.OwnWalkIn
import Derived.TacticsInMore
import Derived.LoopNIn
import Derived.LoopIn
import Derived.Maps.AppendAt
import Derived.Test.YtckpdfkobdgjeaaGreatDoorHRunsAll
namespace Go.Proofs.YtckpdfkobdgjeaaGreatDoor
set_option maxRecDepth 100000
set_option maxHeartbeats 1000000
open Go.RowKit
open Go.RowKit Go.WideMaps Go.Maps
open Go.RowKit Go.Shelf
attribute [local go_sem] Oper.semAt_some
def ZF (s:ByteArray) (k:Nat):Nat:=if h:k<s.size then s[k].toNat else 0
def MD (n:Nat):Bool:=decide (97<=n/\n<=122)
def Si (s:ByteArray):Nat->Bool
 | 0=>true
 | k+1=>Si s k&&MD (ZF s k)
def Zg (s:ByteArray):Bool:=decide (1<=s.size/\s.size<=8)&&Si s s.size
theorem S1 {s:ByteArray} {k:Nat} (h:MD (ZF s k)=false):∀ n,k<n->Si s n=false
 | 0,hn=>by omega
 | n+1,hn=>by
  by_cases e:k=n
  ·subst e;simp [Si,h]
  rw [Si,S1 h n (by omega)];rfl
theorem RD {s:ByteArray} (h:s.size<1\/8<s.size):Zg s=false:=by
 have:¬(1<=s.size/\s.size<=8):=by omega
 simp [Zg,this]
theorem UF {s:ByteArray} {k:Nat} (a:k<s.size) (h:MD (ZF s k)=false):Zg s=false:=by
 rw [Zg,S1 h _ a];simp
theorem Jj {s:ByteArray} (a:1<=s.size) (b:s.size<=8) (h:Si s s.size=true):Zg s=true:=by
 simp [Zg,h,a,b]
theorem Ik {s:ByteArray} {k:Nat} (a:k<s.size) (h:(s[k].toNat:Int)<97):MD (ZF s k)=false:=by
 rw [ZF,dif_pos a];simp [MD];omega
theorem LH {s:ByteArray} {k:Nat} (a:k<s.size) (h:(122:Int)<s[k].toNat):MD (ZF s k)=false:=by
 rw [ZF,dif_pos a];simp [MD];omega
theorem Il {s:ByteArray} {k:Nat} (a:k<s.size) (b:¬(s[k].toNat:Int)<97) (c:¬(122:Int)<s[k].toNat):MD (ZF s k)=true:=by
 rw [ZF,dif_pos a];simp [MD];omega
theorem JW (s:ByteArray) (w:World) (q:s.size<=9223372036854775807):zC 122 #[.string s] w fun e w'=>e=.returned (.bool (Zg s))/\w'=w:=by
 by_cases i:s.size<1
 ·go_enter Tryz.func122,Tryz.ntmps122;go_wp2;go_ret;exact ⟨zm (RD (Or.inl i)).symm,rfl⟩
 by_cases j:8<s.size
 ·go_enter Tryz.func122,Tryz.ntmps122;go_wp2;go_ret;exact ⟨zm (RD (Or.inr j)).symm,rfl⟩
 have l:(1:Int)<=s.size:=by omega
 have m:(s.size:Int)<=8:=by omega
 go_enter Tryz.func122,Tryz.ntmps122;go_wp2;go_loop [3,14] (fun _ c=>∃ k:Nat,c=zI k/\k<=s.size/\Si s k=true) (fun _ c=>s.size-(intOf c).toNat)
 case atStart=>exact ⟨0,rfl,by omega,rfl⟩
 obtain ⟨k,rfl,n,h⟩:=hrel;have d:Zh (Si s k=true):=h;clear h;by_cases b:k<s.size
 ·have p:(k:Int)<s.size:=by omega
  by_cases f:(s[k].toNat:Int)<97
  ·have a:Zh (MD (ZF s k)=false):=Ik b f;go_wp2;go_ret;exact ⟨zm (UF b a.o).symm,rfl⟩
  by_cases g:(122:Int)<s[k].toNat
  ·have a:Zh (MD (ZF s k)=false):=LH b g;go_wp2;go_ret;exact ⟨zm (UF b a.o).symm,rfl⟩
  have a:Zh (MD (ZF s k)=true):=Il b f g;go_wp2;go_round
  case rel=>exact ⟨k+1,by go_num,by omega,by rw [Si,d.o,a.o];rfl⟩
  case measure=>simp [intOf];omega
 obtain rfl:k=s.size:=by omega
 go_wp2;go_ret;exact ⟨zm (Jj (by omega) (by omega) d.o).symm,rfl⟩
def QV (x:Int):Bool:=decide (0<=x/\x<=50)
def Xj (l:zd):Nat->Bool
 | 0=>true
 | k+1=>Xj l k&&QV (rN l k)
def yR (l:zd):Bool:=xe l&&Xj l l.length
theorem WN {l:zd} {k:Nat} (h:QV (rN l k)=false):∀ n,k<n->Xj l n=false
 | 0,hn=>by omega
 | n+1,hn=>by
  by_cases e:k=n
  ·subst e;simp [Xj,h]
  rw [Xj,WN h n (by omega)];rfl
theorem TI (x y:Int) (w:World):zC 162 #[.agg #[zI x,zI y]] w fun e w'=>e=.returned (.bool (!QV y))/\Below w.heap.size w w':=by
 go_enter Tryz.func162,Tryz.ntmps162;go_wp2
 all_goals
  go_ret;refine ⟨zm ?_,zr _ _⟩;rw [Bool.eq_iff_iff];simp [QV]
  try omega
theorem SF (w:World) (b s n cap:Nat) (l:zd) (h:RunsIn w (zO b s) n cap l) (u:0<n) :
 zC 185 #[.slice (zO b s) n cap,.func (.func 162) #[] #[]] w fun e w'=>∃ r:Int,e=.returned (zI r)/\(decide (0<=r))=(!Xj l n)/\Below w.heap.size w w':=by
 have x:=zh h.len;have C:=h.le;have A:=h.bound;obtain ⟨y,E,e,p⟩:=h.cells u;cases e
 have j:=zh p;clear p;go_enter Tryz.func185,Tryz.ntmps185;go_wp2;go_loopw [5,8] (fun _ f wr=>∃ k:Nat,f=zI k/\k<=n/\Xj l k=true/\zL w wr) (fun _ f _=>n-(intOf f).toNat)
 case atStart=>exact ⟨0,rfl,by omega,rfl,Below.refl _ _⟩
 case round =>
  obtain ⟨k,rfl,B,q,m⟩:=hrel;have i:=zh q;have a:=zh m;clear q m;by_cases d:k<n
  ·have D:(k:Int)<n:=(by omega);have z:=cell_later a.o (j.o k d).1;have c1:=cell_later a.o (j.o k d).2;cases g:QV (rN l k) with
   | false =>
    go_wp2_with (go_at_call 162;refine (TI _ _ _).mono ?_;rintro e v ⟨rfl,c⟩;rw [g])
    go_ret;exact ⟨_,rfl,by rw [WN g n d];simp,za a.o c⟩
   | true =>
    go_wp2_with (go_at_call 162;refine (TI _ _ _).mono ?_;rintro e v ⟨rfl,c⟩;have t:=zh c;clear c;rw [g])
    go_roundw
    case rel=>exact ⟨k+1,by go_num,by omega,by rw [Xj,i.o,g];rfl,za a.o t.o⟩
    case measure=>simp [intOf];omega
  obtain rfl:k=n:=by omega
  go_wp2;go_ret;exact ⟨_,rfl,by rw [i.o];rfl,a.o⟩
theorem SE (w:World) (a:Option Addr) (cap:Nat) (k:Nat) :
 zC 185 #[.slice a 0 cap,.func (.func k) #[] #[]] w fun e w'=>e=.returned (zI (-1))/\w'=w:=by
 go_enter Tryz.func185,Tryz.ntmps185;go_wp2;go_loop [5,8] (fun _ b=>b=zI 0) (fun _ _=>0)
 case atStart=>rfl
 case round =>
  subst hrel;go_wp2;go_ret;exact ⟨rfl,rfl⟩
theorem Qm (w:World) (a:Option Addr) (n cap:Nat) (l:zd) (h:RunsIn w a n cap l) :
 zC 185 #[.slice a n cap,.func (.func 162) #[] #[]] w fun e w'=>∃ r:Int,e=.returned (zI r)/\(decide (0<=r))=(!Xj l n)/\Below w.heap.size w w':=by
 by_cases c:0<n
 ·obtain ⟨b,d,rfl,_⟩:=h.cells c;exact SF w b d n cap l h c
 ·obtain rfl:n=0:=by omega
  refine (SE w a cap 162).mono ?_;rintro e w' ⟨rfl,rfl⟩;exact ⟨_,rfl,rfl,Below.refl _ _⟩
theorem UZ (w:World) (a:Option Addr) (n cap:Nat) (l:zd) (h:RunsIn w a n cap l) :
 zC 161 #[.slice a n cap,.func (.func 162) #[] #[]] w fun e w'=>e=.returned (.bool (!Xj l n))/\Below w.heap.size w w':=by
 go_enter Tryz.func161,Tryz.ntmps161;go_wp2_with fail
 refine (Qm w a n cap l h).mono ?_;rintro e f ⟨r,rfl,b,d⟩;have c:=zh b;clear b;go_wp2;go_ret;exact ⟨zm c.o,d⟩
theorem ME (w:World) (a:Option Addr) (n cap:Nat) (l:zd) (h:RunsIn w a n cap l) :
 zC 126 #[.slice a n cap] w fun e w'=>e=.returned (.bool (!yR l))/\Below w.heap.size w w':=by
 have i:=zh h.len;cases c:xe l with
 | false =>
  have d:Wd l=1:=by simp [Wd,c]
  have f:yR l=false:=by simp [yR,c]
  rw [f];go_enter Tryz.func126,Tryz.ntmps126;go_wp2_with fail
  refine (yg w a n cap l h).mono ?_;rintro e g ⟨rfl,b⟩;rw [d];go_wp2;go_ret;exact ⟨rfl,b⟩
 | true =>
  have d:Wd l=0:=by simp [Wd,c]
  have f:yR l=Xj l n:=by rw [yR,c,i.o];rfl
  rw [f];go_enter Tryz.func126,Tryz.ntmps126;go_wp2_with fail
  refine (yg w a n cap l h).mono ?_;rintro e g ⟨rfl,b⟩;rw [d];go_wp2_with fail
  refine (UZ g a n cap l (h.later b)).mono ?_;rintro e k ⟨rfl,j⟩;go_wp2;go_ret;exact ⟨rfl,za b j⟩
structure Qu where
 name:ByteArray
 parent:Int
 ca:Option Addr
 cn:Nat
 cc:Nat
 runs:zd
abbrev QL:=List Qu
def qu (l:QL) (i:Nat):Qu:=l.getD i ⟨ByteArray.empty,0,none,0,0,[]⟩
structure QsIn (w:World) (a:Option Addr) (n cap:Nat) (l:QL):Prop where
 len:n=l.length
 le:n<=cap
 capb:cap<=9223372036854775807
 cells:0<n->∃ b off,a=zO b off/\∀ i,i<n->w.cell? (zA b (off+i*3))=some (.string (qu l i).name)/\w.cell? (zA b (off+i*3+1))=some (zI (qu l i).parent)/\w.cell? (zA b (off+i*3+2))=some (.slice (qu l i).ca (qu l i).cn (qu l i).cc)
 caps:∀ i,i<n->RunsIn w (qu l i).ca (qu l i).cn (qu l i).cc (qu l i).runs
 names:∀ i,i<n->(qu l i).name.size<=9223372036854775807
theorem QsIn.later {w w':World} {a:Option Addr} {n cap:Nat} {l:QL} (h:QsIn w a n cap l) (d:Below w.heap.size w w'):QsIn w' a n cap l:=by
 refine ⟨h.len,h.le,h.capb,fun g=>?_,fun i c=>(h.caps i c).later d,h.names⟩;obtain ⟨b,j,f,e⟩:=h.cells g;exact ⟨b,j,f,fun i c=>⟨cell_later d (e i c).1,cell_later d (e i c).2.1,cell_later d (e i c).2.2⟩⟩
def Yg (p:Qu->Bool) (l:QL):Nat->Bool
 | 0=>true
 | k+1=>Yg p l k&&p (qu l k)
theorem Xg {p:Qu->Bool} {l:QL} {k:Nat} (h:p (qu l k)=false):∀ n,k<n->Yg p l n=false
 | 0,hn=>by omega
 | n+1,hn=>by
  by_cases e:k=n
  ·subst e;simp [Yg,h]
  rw [Yg,Xg h n (by omega)];rfl
theorem Um {p:Qu->Bool} {l:QL}:∀ {n:Nat},Yg p l n=true↔∀ k,k<n->p (qu l k)=true
 | 0=>by simp [Yg]
 | n+1=>by
  simp only [Yg,Bool.and_eq_true,Um (n:=n)]
  constructor
  ·rintro ⟨a,b⟩ k c;by_cases e:k=n
   ·subst e;exact b
   exact a k (by omega)
  intro h;exact ⟨fun k c=>h k (by omega),h n (by omega)⟩
def Sn (k:Nat) (p:Qu->Bool):Prop :=
 (∀ (args:Array Value) (w:World),(callFunc k args).run Tryz.prog w=.ok (.enter k args) w) /\
 ∀ (q:Qu) (w:World),q.name.size<=9223372036854775807->RunsIn w q.ca q.cn q.cc q.runs->zC k #[.agg #[.string q.name,zI q.parent,.slice q.ca q.cn q.cc]] w fun e w'=>e=.returned (.bool (!p q))/\Below w.heap.size w w'
theorem Fg:Sn 121 (fun q=>Zg q.name):=by
 refine ⟨fun args w=>by go_simp,fun q w hn a=>?_⟩;go_enter Tryz.func121,Tryz.ntmps121;go_wp2_with (go_at_call 122;refine (JW _ _ hn).mono ?_;rintro e w' ⟨rfl,rfl⟩)
 go_ret;exact ⟨rfl,zr _ _⟩
theorem Fh:Sn 125 (fun q=>yR q.runs):=by
 refine ⟨fun args w=>by go_simp,fun q w hn d=>?_⟩;have b:zL w (w.alloc (.cells #[.string q.name,zI q.parent,.slice q.ca q.cn q.cc] 66)):=zr _ _;have a:=zh b;clear b;go_enter Tryz.func125,Tryz.ntmps125;go_wp2_with fail
 refine (ME _ q.ca q.cn q.cc q.runs (d.later a.o)).mono ?_;rintro e f ⟨rfl,c⟩;go_wp2;go_ret;exact ⟨rfl,za a.o c⟩
theorem PH (k:Nat) (p:Qu->Bool) (z:Sn k p) (w:World) (b x n cap:Nat) (l:QL) (h:QsIn w (zO b x) n cap l) (A:0<n) :
 zC 160 #[.slice (zO b x) n cap,.func (.func k) #[] #[]] w fun e w'=>∃ r:Int,e=.returned (zI r)/\(decide (0<=r))=(!Yg p l n)/\Below w.heap.size w w':=by
 have C:=zh h.len;have I:=h.le;have F:=h.capb;obtain ⟨D,L,e,u⟩:=h.cells A;cases e
 have f:=zh u;clear u;obtain ⟨H,v⟩:=z;have q:=zh v;clear v;go_enter Tryz.func160,Tryz.ntmps160;go_wp2;go_loopw [5,8] (fun _ i wr=>∃ k:Nat,i=zI k/\k<=n/\Yg p l k=true/\zL w wr) (fun _ i _=>n-(intOf i).toNat)
 case atStart=>exact ⟨0,rfl,by omega,rfl,Below.refl _ _⟩
 case round =>
  obtain ⟨j,rfl,G,s,t⟩:=hrel;have m:=zh s;have a:=zh t;clear s t;by_cases c:j<n
  ·have J:(j:Int)<n:=(by omega);have E:=cell_later a.o (f.o j c).1;have c1:=cell_later a.o (f.o j c).2.1;have c2:=cell_later a.o (f.o j c).2.2;cases g:p (qu l j) with
   | false =>
    go_wp2_with fail
    refine (q.o (qu l j) wr (h.names j c) ((h.caps j c).later a.o)).mono ?_;rintro e B ⟨rfl,d⟩;rw [g];go_wp2;go_ret;exact ⟨_,rfl,by rw [Xg g n c];simp,za a.o d⟩
   | true =>
    go_wp2_with fail
    refine (q.o (qu l j) wr (h.names j c) ((h.caps j c).later a.o)).mono ?_;rintro e B ⟨rfl,d⟩;have y:=zh d;clear d;rw [g];go_wp2;go_roundw
    case rel=>exact ⟨j+1,by go_num,by omega,by rw [Yg,m.o,g];rfl,za a.o y.o⟩
    case measure=>simp [intOf];omega
  obtain rfl:j=n:=by omega
  go_wp2;go_ret;exact ⟨_,rfl,by rw [m.o];rfl,a.o⟩
theorem WH (k:Nat) (p:Qu->Bool) (c:Sn k p) (w:World) (a:Option Addr) (n cap:Nat) (l:QL) (h:QsIn w a n cap l) (d:0<n) :
 zC 120 #[.slice a n cap,.func (.func k) #[] #[]] w fun e w'=>e=.returned (.bool (!Yg p l n))/\Below w.heap.size w w':=by
 obtain ⟨b,m,rfl,_⟩:=h.cells d;have g:=zh c;clear c;go_enter Tryz.func120,Tryz.ntmps120;go_wp2_with fail
 refine (PH k p g.o w b m n cap l h d).mono ?_;rintro e q ⟨r,rfl,f,j⟩;have i:=zh f;clear f;go_wp2;go_ret;exact ⟨zm i.o,j⟩
def xK (l:QL):Nat->Bool
 | 0=>true
 | k+1=>xK l k&&decide (-1<=(qu l k).parent/\(qu l k).parent<k)
theorem XE {l:QL} {k:Nat} (h:¬(-1<=(qu l k).parent/\(qu l k).parent<k)):∀ n,k<n->xK l n=false
 | 0,hn=>by omega
 | n+1,hn=>by
  by_cases e:k=n
  ·subst e;rw [xK,decide_eq_false h,Bool.and_false]
  rw [xK,XE h n (by omega)];rfl
theorem Pm {l:QL}:∀ {n:Nat},xK l n=true↔∀ k,k<n->-1<=(qu l k).parent/\(qu l k).parent<k
 | 0=>by simp [xK]
 | n+1=>by
  simp only [xK,Bool.and_eq_true,Pm (n:=n),decide_eq_true_eq]
  constructor
  ·rintro ⟨a,b⟩ k c;by_cases e:k=n
   ·subst e;exact b
   exact a k (by omega)
  intro h;exact ⟨fun k c=>h k (by omega),h n (by omega)⟩
theorem Qv (w:World) (a:Option Addr) (n cap:Nat) (l:QL) (h:QsIn w a n cap l) (x:0<n) :
 zC 124 #[.slice a n cap] w fun e w'=>e=.returned (.bool (!xK l n))/\Below w.heap.size w w':=by
 have C:=h.le;have A:=h.capb;obtain ⟨b,E,rfl,t⟩:=h.cells x;have f:=zh t;clear t;go_enter Tryz.func124,Tryz.ntmps124;go_wp2;go_loopw [3,4,7] (fun _ _ p wr=>∃ k:Nat,p=zI k/\k<=n/\xK l k=true/\zL w wr) (fun _ _ p _=>n-(intOf p).toNat)
 case atStart=>exact ⟨0,rfl,by omega,rfl,Below.refl _ _⟩
 case round =>
  obtain ⟨j,rfl,B,s,i⟩:=hrel;have r:=zh s;have c:=zh i;have m:w.heap.size<=wr.heap.size:=i.size;clear s i;by_cases d:j<n
  ·have D:(j:Int)<n:=(by omega);have v:=cell_later c.o (f.o j d).1;have c1:=cell_later c.o (f.o j d).2.1;have c2:=cell_later c.o (f.o j d).2.2;generalize u:qu l j=q at v c1 c2;have g:=zh u;clear u;by_cases y:q.parent < -1
   ·go_wp2;go_ret;exact ⟨zm (by rw [XE (k:=j) (by rw [g.o];omega) n d];rfl),c.o.alloc m _⟩
   by_cases z:(j:Int)<=q.parent
   ·go_wp2;go_ret;exact ⟨zm (by rw [XE (k:=j) (by rw [g.o];omega) n d];rfl),c.o.alloc m _⟩
   go_wp2;go_roundw
   case rel=>exact ⟨j+1,by go_num,by omega,by rw [xK,r.o,g.o,decide_eq_true (by omega)];rfl,c.o.alloc m _⟩
   case measure=>simp [intOf];omega
  obtain rfl:j=n:=by omega
  go_wp2;go_ret;exact ⟨zm (by rw [r.o];rfl),c.o⟩
def nm (l:QL) (i:Nat):List UInt8:=(qu l i).name.data.toList
def yy (l:QL) (k:Nat):Nat->Bool
 | 0=>false
 | i+1=>yy l k i||(nm l i==nm l k)
def yu (l:QL):Nat->Bool
 | 0=>true
 | k+1=>yu l k&&!yy l k k
theorem Z9 {l:QL} {k:Nat}:∀ {m:Nat},yy l k m=true↔∃ i,i<m/\nm l i=nm l k
 | 0=>by simp [yy]
 | m+1=>by
  simp only [yy,Bool.or_eq_true,Z9 (m:=m),beq_iff_eq]
  constructor
  ·rintro (⟨i,b,a⟩ | h)
   ·exact ⟨i,by omega,a⟩
   exact ⟨m,by omega,h⟩
  rintro ⟨i,b,a⟩;by_cases e:i=m
  ·subst e;exact Or.inr a
  exact Or.inl ⟨i,by omega,a⟩
theorem XM {l:QL} {k:Nat} (h:yy l k k=true):∀ n,k<n->yu l n=false
 | 0,hn=>by omega
 | n+1,hn=>by
  by_cases e:k=n
  ·subst e;rw [yu,h];simp
  rw [yu,XM h n (by omega)];rfl
theorem Rl {w w':World} {row g:Nat} (h:w.grownBy w' (some row)) (hg:g<w.heap.size) (a:g≠row) (i:Nat):w'.cell? (zA g i)=w.cell? (zA g i) :=
 World.cell?_of_block (w:=w) (h.block g hg (fun e=>a (by injection e)))
theorem Rt:Keyed Tryz.prog 9:=string_keyed Tryz.underlying9
theorem Hs (w:World):(zeroValue 3).run Tryz.prog w=.ok (zI 0) w:=by kernel_rfl
def VU (l:QL) (j:Nat) (D:DataW Unit):Prop :=
 IsMap D/\(∀ i,i<j->D.atKey (.string (nm l i)) (.lit (.int .i64 0))=.lit (.int .i64 1))/\(∀ s,(∀ i,i<j->nm l i≠s)->D.atKey (.string s) (.lit (.int .i64 0))=.lit (.int .i64 0))
theorem VU.zero (l:QL):VU l 0 (.map []):=⟨isMap_empty,fun i a=>by omega,fun s _=>rfl⟩
theorem VU.next {l:QL} {j:Nat} {D:DataW Unit} (h:VU l j D):VU l (j+1) (D.put (.string (nm l j)) (.lit (.int .i64 1))):=by
 refine ⟨h.1.put _ _,fun i c=>?_,fun s a=>?_⟩
 ·by_cases e:nm l i=nm l j
  ·rw [e,atKey_put_same h.1 (show WideAt.IsKeyLit (.string (nm l j)) from trivial)]
  rw [atKey_put_other (by intro q;injection q with q;exact e q)];exact h.2.1 i (by
   by_cases b:i=j
   ·subst b;exact absurd rfl e
   omega)
 rw [atKey_put_other (by intro q;injection q with q;exact a j (by omega) q.symm)];exact h.2.2 s (fun i c=>a i (by omega))
theorem Ol (w:World) (a:Option Addr) (n cap:Nat) (l:QL) (h:QsIn w a n cap l) (X:0<n) (ab:n<=5) :
 zC 123 #[.slice a n cap] w fun e w'=>e=.returned (.bool (!yu l n))/\Below w.heap.size w w':=by
 have af:=h.le;have ad:=h.capb;obtain ⟨b,aj,rfl,O⟩:=h.cells X;have x:=zh O;clear O;have ai:=@run_makeMap Tryz.prog;go_enter Tryz.func123,Tryz.ntmps123;go_wp2;go_loopw [5,9] (fun _ I wr=>∃ (j:Nat) (D:DataW Unit),I=zI j/\j<=n/\yu l j=true/\wr.ownsMap Tryz.prog 9 (plainElem Tryz.prog 3) w.heap.size j D/\VU l j D/\zL w wr) (fun _ I _=>n-(intOf I).toNat)
 case atStart=>exact ⟨0,.map [],rfl,by omega,rfl,World.ownsMap_made _ _ _ _,VU.zero l,zr _ _⟩
 case round =>
  obtain ⟨j,D,rfl,ae,M,G,R,A⟩:=hrel;have J:=zh M;have m:=zh A;have U:=zh G;have s:=zh R;have S:w.heap.size<=wr.heap.size:=A.size;have ah:w.heap.size<wr.heap.size:=G.lt;clear M A G R;by_cases t:j<n
  ·have ag:(j:Int)<n:=(by omega);have W:=cell_later m.o (x.o j t).1;have c1:=cell_later m.o (x.o j t).2.1;have c2:=cell_later m.o (x.o j t).2.2;have p:Zh (keyOf Tryz.prog 9 (.string (qu l j).name)=some (.string (nm l j))):=keyOf_string_mk Tryz.underlying9 (h.names j t);obtain ⟨q,H⟩:=qA (qu l j);rw [H] at W c1 c2 p;have aa:=zh H;clear H;have y:=zh (U.o.alloc (.cells #[.string q.name,zI q.parent,.slice q.ca q.cn q.cc] 66));obtain ⟨c,Q,N,_⟩:=y.o.lookup_int Rt Tryz.underlying201 Tryz.underlying3 (Hs _) p.o;have L:=zh N;clear N;cases g:yy l j j with
   | true =>
    have B:c=1:=by
     obtain ⟨i,E,e⟩:=Z9.1 g;have:=s.o.2.1 i E;rw [e,L.o] at this;injection this with q;injection q
    subst B;have u:True:=trivial;go_wp2_with (at_mapUpdate;have _t:=u;refine wpList_mapUpdate_own _ rfl _ _ _ 201 rfl 9 3 Rt Tryz.underlying201 _ w.heap.size j _ rfl y.o (by unfold maxLen;omega) _ _ _ rfl rfl p.o _ [] (plainElem_int Tryz.underlying3 (WalkArith.wf_i64 (by omega))) ?_;clear u)
    intro Z r f;have z:=Rl f (by simp) (show wr.heap.size≠w.heap.size by omega) 0;simp only [World.cell?_alloc_at _ _ _ _ rfl] at z;have v:=zh ((m.o.alloc S _).grown f (by simp;omega) (fun k F=>by cases F;exact Nat.le_refl _));obtain ⟨c2,Y,d,_⟩:=r.lookup_int Rt Tryz.underlying201 Tryz.underlying3 (Hs _) p.o;have C:c2=2:=by
     rw [atKey_put_same s.o.1 (show WideAt.IsKeyLit (.string (nm l j)) from trivial)] at d;injection d with q;injection q with _ q;exact q.symm
    subst C;clear r f d Q;go_wp2;go_ret;exact ⟨zm (by rw [XM g n t];rfl),v.o⟩
   | false =>
    have P:∀ i,i<j->nm l i≠nm l j:=fun i E e=>by
     have:=Z9.2 ⟨i,E,e⟩;rw [g] at this;cases this
    have B:c=0:=by
     have:=s.o.2.2 (nm l j) P;rw [L.o] at this;injection this with q;injection q
    subst B;clear P;have u:True:=trivial;go_wp2_with (at_mapUpdate;have _t:=u;refine wpList_mapUpdate_own _ rfl _ _ _ 201 rfl 9 3 Rt Tryz.underlying201 _ w.heap.size j _ rfl y.o (by unfold maxLen;omega) _ _ _ rfl rfl p.o _ [] (plainElem_int Tryz.underlying3 (WalkArith.wf_i64 (by omega))) ?_;clear u)
    intro Z r f;have z:=Rl f (by simp) (show wr.heap.size≠w.heap.size by omega) 0;simp only [World.cell?_alloc_at _ _ _ _ rfl] at z;have v:=zh ((m.o.alloc S _).grown f (by simp;omega) (fun k F=>by cases F;exact Nat.le_refl _));have V:=zh r;obtain ⟨c2,Y,d,_⟩:=r.lookup_int Rt Tryz.underlying201 Tryz.underlying3 (Hs _) p.o;have C:c2=1:=by
     rw [atKey_put_same s.o.1 (show WideAt.IsKeyLit (.string (nm l j)) from trivial)] at d;injection d with q;injection q with _ q;exact q.symm
    subst C;clear r f d Q;go_wp2;go_roundw
    case rel=>exact ⟨j+1,_,by go_num,by omega,by rw [yu,J.o,g];rfl,V.o,s.o.next,v.o⟩
    case measure=>simp [intOf];omega
  obtain rfl:j=n:=by omega
  go_wp2;go_ret;exact ⟨zm (by rw [J.o];rfl),m.o⟩
def xC (l:QL):Bool:=Yg (fun q=>Zg q.name) l l.length
def ZX (l:QL):Bool:=Yg (fun q=>yR q.runs) l l.length
def z9 (l:QL):Int :=
 if yW l.length 1 5=true then (if xC l=true then (if yu l l.length=true then (if xK l l.length=true then (if ZX l=true then 0 else 1) else 3) else 5) else 4) else 2
theorem wF (w:World) (a:Option Addr) (n cap:Nat) (l:QL) (h:QsIn w a n cap l) :
 zC 78 #[.slice a n cap] w fun e w'=>e=.returned (zI (z9 l))/\Below w.heap.size w w':=by
 have hn:=h.len;have G:=h.capb;have H:=h.le;cases i:yW l.length 1 5 with
 | false =>
  have f:z9 l=2:=by simp [z9,i]
  rw [f];rw [<-hn] at i;simp [yW] at i;have C:=zh hn;clear hn;by_cases D:(n:Int)<1
  ·go_enter Tryz.func78,Tryz.ntmps78;go_wp2;go_ret;exact ⟨rfl,Below.refl _ _⟩
  have E:(5:Int)<n:=by omega
  go_enter Tryz.func78,Tryz.ntmps78;go_wp2;go_ret;exact ⟨rfl,Below.refl _ _⟩
 | true =>
  have u:=i;rw [<-hn] at u;simp [yW] at u;have p:0<n:=by omega
  have F:n<=5:=by omega
  have D:¬(n:Int)<1:=by omega
  have E:¬(5:Int)<n:=by omega
  have x:Yg (fun q=>Zg q.name) l n=xC l:=by rw [xC,hn]
  have y:yu l n=yu l l.length:=by rw [hn]
  have z:xK l n=xK l l.length:=by rw [hn]
  have A:Yg (fun q=>yR q.runs) l n=ZX l:=by rw [ZX,hn]
  have k:=zh fun b (j:zL w b)=>WH 121 _ Fg b a n cap l (h.later j) p;have m:=zh fun b (j:zL w b)=>Ol b a n cap l (h.later j) p F;have t:=zh fun b (j:zL w b)=>Qv b a n cap l (h.later j) p;have v:=zh fun b (j:zL w b)=>WH 125 _ Fh b a n cap l (h.later j) p;rw [x] at k;rw [y] at m;rw [z] at t;rw [A] at v;clear u x y z A;have C:=zh hn;clear hn;cases c1:xC l with
  | false =>
   have f:z9 l=4:=(by simp [z9,i,c1]);rw [f];go_enter Tryz.func78,Tryz.ntmps78;go_wp2_with fail
   refine (k.o w (Below.refl _ _)).mono ?_;rintro e b ⟨rfl,d⟩;rw [c1];go_wp2;go_ret;exact ⟨rfl,d⟩
  | true =>
  cases c2:yu l l.length with
  | false =>
   have f:z9 l=5:=(by simp [z9,i,c1,c2]);rw [f];go_enter Tryz.func78,Tryz.ntmps78;go_wp2_with fail
   refine (k.o w (Below.refl _ _)).mono ?_;rintro e b ⟨rfl,d⟩;rw [c1];go_wp2_with fail
   refine (m.o b d).mono ?_;rintro e r ⟨rfl,c⟩;have c:=za d c;rw [c2];go_wp2;go_ret;exact ⟨rfl,c⟩
  | true =>
  cases c3:xK l l.length with
  | false =>
   have f:z9 l=3:=(by simp [z9,i,c1,c2,c3]);rw [f];go_enter Tryz.func78,Tryz.ntmps78;go_wp2_with fail
   refine (k.o w (Below.refl _ _)).mono ?_;rintro e b ⟨rfl,d⟩;rw [c1];go_wp2_with fail
   refine (m.o b d).mono ?_;rintro e r ⟨rfl,c⟩;have c:=za d c;rw [c2];go_wp2_with fail
   refine (t.o r c).mono ?_;rintro e B ⟨rfl,g⟩;have g:=za c g;rw [c3];go_wp2;go_ret;exact ⟨rfl,g⟩
  | true =>
   have f:z9 l=if ZX l=true then 0 else 1:=(by simp [z9,i,c1,c2,c3]);rw [f];cases c4:ZX l
   all_goals
    go_enter Tryz.func78,Tryz.ntmps78;go_wp2_with fail
    refine (k.o w (Below.refl _ _)).mono ?_;rintro e b ⟨rfl,d⟩;rw [c1];go_wp2_with fail
    refine (m.o b d).mono ?_;rintro e r ⟨rfl,c⟩;have c:=za d c;rw [c2];go_wp2_with fail
    refine (t.o r c).mono ?_;rintro e B ⟨rfl,g⟩;have g:=za c g;rw [c3];go_wp2_with fail
    refine (v.o B g).mono ?_;rintro e I ⟨rfl,s⟩;have s:=za g s;rw [c4];go_wp2;go_ret;exact ⟨yK (by rfl),s⟩
theorem Fm {l:QL} (a:yW l.length 1 5=true) (h:xC l=false):z9 l=4:=by simp [z9,a,h]
theorem Fn {l:QL} (b:yW l.length 1 5=true) (a:xC l=true) (h:yu l l.length=false):z9 l=5:=by simp [z9,b,h,a]
theorem Fl {l:QL} (c:yW l.length 1 5=true) (a:xC l=true) (b:yu l l.length=true) (h:xK l l.length=false):z9 l=3:=by simp [z9,c,h,a,b]
theorem Fk {l:QL} (d:yW l.length 1 5=true) (a:xC l=true) (b:yu l l.length=true) (c:xK l l.length=true) (h:ZX l=false):z9 l=1:=by simp [z9,d,h,a,b,c]
theorem Fj {l:QL} (d:yW l.length 1 5=true) (a:xC l=true) (b:yu l l.length=true) (c:xK l l.length=true) (h:ZX l=true):z9 l=0:=by simp [z9,d,h,a,b,c]
theorem QE {l:QL} {k i:Nat} (a:i<k) (h:(nm l i==nm l k)=true):yy l k k=true:=Z9.2 ⟨i,a,eq_of_beq h⟩
def Lj (l:QL) (q:Int):Int:=if z9 l=0 then (if 0<=q/\q<l.length then 0 else 6) else z9 l
theorem IZ {l:QL} {q:Int} (h:¬z9 l=0):Lj l q=z9 l:=if_neg h
theorem Jp {l:QL} {q:Int} (h:z9 l=0) (a:¬(0<=q/\q<l.length)):Lj l q=6:=by rw [Lj,if_pos h,if_neg a]
theorem L0 {l:QL} {q:Int} (h:z9 l=0) (a:0<=q/\q<l.length):Lj l q=0:=by rw [Lj,if_pos h,if_pos a]
structure Right (l:QL):Prop where
 pos:0<l.length
 five:l.length<=5
 par:∀ k,k<l.length->-1<=(qu l k).parent/\(qu l k).parent<k
theorem yY {l:QL} (h:z9 l=0):Right l:=by
 unfold z9 at h;by_cases a:yW l.length 1 5=true
 ·rw [if_pos a] at h;have e:=of_decide_eq_true a;by_cases b:xC l=true
  ·rw [if_pos b] at h;by_cases c:yu l l.length=true
   ·rw [if_pos c] at h;by_cases d:xK l l.length=true
    ·exact ⟨by omega,by omega,Pm.1 d⟩
    rw [if_neg d] at h;omega
   rw [if_neg c] at h;omega
  rw [if_neg b] at h;omega
 rw [if_neg a] at h;omega
def YI (l:QL):Nat->Int->List Int
 | 0,_=>[]
 | f+1,q=>if 0<=q then q::YI l f (qu l q.toNat).parent else []
theorem UB {l:QL} (a:Right l):∀ (f:Nat) (q:Int),q<l.length->q<f->YI l (f+1) q=YI l f q
 | 0,q,_,h=>by show (if 0<=q then q::YI l 0 (qu l q.toNat).parent else [])=[];rw [if_neg (by omega)]
 | f+1,q,h1,h2=>by
  rw [YI]
  conv=>rhs;rw [YI]
  by_cases g:0<=q
  ·rw [if_pos g,if_pos g];have:=a.par q.toNat (by omega);rw [UB a f _ (by omega) (by omega)]
  rw [if_neg g,if_neg g]
def zK (l:QL) (q:Int):List Int:=YI l 5 q
theorem Y8 {l:QL} (a:Right l) {q:Int} (b:0<=q) (c:q<l.length):zK l q=q::zK l (qu l q.toNat).parent:=by
 have:=a.five;show YI l 5 q=_;rw [<-UB a 5 q c (by omega),YI,if_pos b];rfl
theorem WZ {l:QL} {q:Int} (h:q<0):zK l q=[]:=by
 show YI l 5 q=_;rw [YI,if_neg (by omega)]
theorem Pf (l:QL):∀ f q,(YI l f q).length<=f
 | 0,_=>Nat.le_refl _
 | f+1,q=>by
  rw [YI]
  split
  ·have:=Pf l f (qu l q.toNat).parent;simp;omega
  simp
theorem WY (l:QL) (q:Int):(zK l q).length<=5:=Pf l 5 q
structure IntsIn (w:World) (a:Option Addr) (n cap:Nat) (l:List Int):Prop where
 len:n=l.length
 le:n<=cap
 capb:cap<=9223372036854775807
 cells:0<n->∃ b off,a=zO b off/\∀ i,i<n->w.cell? (zA b (off+i))=some (zI (l.getD i 0))
theorem IntsIn.later {w w':World} {a:Option Addr} {n cap:Nat} {l:List Int} (h:IntsIn w a n cap l) (d:Below w.heap.size w w'):IntsIn w' a n cap l:=by
 refine ⟨h.len,h.le,h.capb,fun g=>?_⟩;obtain ⟨b,j,c,e⟩:=h.cells g;exact ⟨b,j,c,fun i f=>cell_later d (e i f)⟩
theorem M3 (w:World):IntsIn w none 0 0 []:=⟨rfl,Nat.le_refl _,by simp,fun h=>by simp at h⟩
def zG (w:World) (B:Nat) (v:Value) (l:List Int):Prop:=w.ownsRow B 3 1 v l.length (l.map (Value.int .i64))
theorem zG.parts {w:World} {B:Nat} {v:Value} {l:List Int} (h:zG w B v l):∃ a cap,v=.slice a l.length cap/\IntsIn w a l.length cap l:=by
 have c:=h;rcases c.2 with ⟨b,hn⟩ | ⟨g,cap,k,b,hg,m,j,d,n,o⟩
 ·have f:l=[]:=List.eq_nil_of_length_eq_zero hn;subst f;exact ⟨none,0,by simpa using b,M3 w⟩
 subst b;refine ⟨zO g 0,cap,rfl,⟨rfl,j,d,fun _=>⟨g,0,rfl,fun i e=>?_⟩⟩⟩;rw [Nat.zero_add];refine (World.ownsRow.cellAt h i (by omega)).trans ?_;simp [List.getElem?_eq_getElem e]
theorem Tryz.info3:(Tryz.prog.info? 3).map (fun i=>(i.zero,i.size,i.bytes))=some (some (zI 0),1,8):=by kernel_rfl
theorem Gt (w:World) (p:Value) (t:TypeId):∀ (j:Nat) (b:Value),[p][j]?=some b->(w.alloc (.cells #[p] t)).cell? (((zA w.heap.size 0):Addr).add j)=some b:=by
 intro j b a
 match j,a with
 | 0,a=>simp at a;subst a;simp [Addr.add]
theorem Gu (p:Int):∀ b∈[Value.int .i64 p],b.oneCell'=true:=by
 intro b a;simp at a;subst a;rfl
theorem Jc {B:Nat} {w b a:World} {v c:Value} {o:Obj} {l:List Int} {x:Int} (e:Below B w b) (d:B<=b.heap.size) (h:zG b B v l)
 (g:a.ownsRow B 3 1 c (l.length+1) (l.map (Value.int .i64)++[zI x])) (hg:(b.alloc o).grownBy a v.ownBlock) :
 zG a B c (l++[x])/\Below B w a/\B<=a.heap.size:=by
 refine ⟨by unfold zG;simpa using g,(e.alloc d o).grown hg (by simp;omega) (fun k f=>(h.lt k f).1),?_⟩;have:=hg.size;simp at this;omega
def WS (zs:List Int) (q:Int):Nat->Bool
 | 0=>false
 | k+1=>WS zs q k||(zs.getD k 0==q)
theorem Rm {zs:List Int} {q:Int} {k:Nat} (h:(zs.getD k 0==q)=true):∀ n,k<n->WS zs q n=true
 | 0,hn=>by omega
 | n+1,hn=>by
  by_cases e:k=n
  ·subst e;rw [WS,h];simp
  rw [WS,Rm h n (by omega)];rfl
def yG (l:QL) (k q:Int):Bool:=WS (zK l k) q (zK l k).length
structure BoolsIn (w:World) (a:Option Addr) (n cap:Nat) (l:List Bool):Prop where
 len:n=l.length
 le:n<=cap
 capb:cap<=9223372036854775807
 cells:0<n->∃ b off,a=zO b off/\∀ i,i<n->w.cell? (zA b (off+i))=some (.bool (l.getD i false))
theorem BoolsIn.later {w w':World} {a:Option Addr} {n cap:Nat} {l:List Bool} (h:BoolsIn w a n cap l) (d:Below w.heap.size w w'):BoolsIn w' a n cap l:=by
 refine ⟨h.len,h.le,h.capb,fun g=>?_⟩;obtain ⟨b,j,c,e⟩:=h.cells g;exact ⟨b,j,c,fun i f=>cell_later d (e i f)⟩
def UY (l:QL) (n:Nat) (q:Int):List Bool:=(List.range n).map fun (k:Nat)=>yG l (k:Int) q
theorem N4 (l:QL) (n:Nat) (q:Int):(UY l n q).length=n:=by simp [UY]
theorem Sa (l:QL) (n:Nat) (q:Int) (k:Nat) (h:k<n):(UY l n q).getD k false=yG l (k:Int) q:=by simp [UY,List.getD,h]
theorem Tryz.info4:(Tryz.prog.info? 4).map (fun i=>(i.zero,i.size,i.bytes))=some (some (.bool false),1,1):=by kernel_rfl
theorem Km {w:World} {g n:Nat} {f:Nat->Value} {l:List Bool} (hn:n=l.length) (h:w.rowIs g 4 n f) (b:∀ i,i<n->f i=.bool (l.getD i false)) (c:n<=5):BoolsIn w (zO g 0) n n l :=
 ⟨hn,Nat.le_refl _,by omega,fun _=>⟨g,0,rfl,fun i a=>by rw [Nat.zero_add,h.cell a,b i a]⟩⟩
def YO (n₀ Bl:Nat) (A B:World):Prop:=Below n₀ A B/\∀ v,Boxed A Bl 37 v->Boxed B Bl 37 v
theorem YO.trans {b a:Nat} {c B C:World} (h:YO b a c B) (k:YO b a B C):YO b a c C:=⟨h.1.trans k.1,fun v d=>k.2 v (h.2 v d)⟩
theorem Rs {g c:Nat} {w:World} (hn:g<=w.heap.size) (a:World) (l:Nat) (o b:Obj) (j:w.heap.size<=l) (h:a.heap[l]?=some o) (d:o.isCells=false) (i:o.isWalk=false):YO g c a (a.putObj l b) :=
 ⟨belowK_b hn a l o b j h d i,fun v f=>f.kept (grownBy_putObj' a l b) (fun e=>by
  injection e with e;subst e;rw [show a.heap[c]?=_ from f] at h;cases h
  cases d)⟩
theorem Hh (F:Fence) (n:Nat) (b:F.fn 81) (d:F.round=none) (v:Value) (q:Int) (w:World) (f:∃ a m c,v=.slice a m c) :
 CallsIn F n Tryz.prog 81 #[v,zI q] w fun e w'=>e=.returned (.func (.func 130) #[] #[.pointer (zO (w.heap.size+1) 0),.pointer (zO w.heap.size 0)])/\w'=(w.alloc (.cells #[v] 37)).alloc (.cells #[zI q] 3):=by
 obtain ⟨a,m,c,rfl⟩:=f;refine callsIn_of_wp Tryz.func81 rfl b ?_ d;simp only [Tryz.ntmps81,List.size_toArray,List.length_cons,List.length_nil,Nat.reduceAdd,Nat.reduceSub,Array.replicate_succ,Array.replicate_zero,List.push_toArray,List.append_toArray,List.nil_append,List.cons_append]
 gi_wp2
 go_ret;exact ⟨rfl,rfl⟩
theorem Ft (F:Fence) (n:Nat) (X:F.fn 130) (al:F.round=none) (hn:1<=n) (M w k u b j d cap:Nat) (l:QL) (q:Int) (E:Right l) (D:d=l.length) (ak:q<d) (g A:List Int->World->Prop)
 (ae:∀ a x c,g a c->a.length<5->YieldAt F (n-1) Tryz.prog M #[zI x] c fun e f =>
  (e=.returned (.bool true)/\g (a++[x]) f/\YO u k c f)\/(e=.returned (.bool false)/\A (a++[x]) f))
 (c:World) (ao:c.cell? (zA w 0)=some (zI q)) (Y:Boxed c k 37 (.slice (zO b j) d cap)) (af:b<u)
 (I:∀ i,i<d->c.cell? (zA b (j+i*3+1))=some (zI (qu l i).parent)) (W:g [] c) :
 CallsIn F n Tryz.prog 130 #[.func (.yield M) #[] #[],.pointer (zO w 0),.pointer (zO k 0)] c fun e f=>(∃ v,e=.returned v) /\
  ((∃ N,N=zK l q/\g N f)\/(∃ a,a <+: zK l q/\A a f)):=by
 have z:=zh E;have y:=zh D;have R:=zh I;clear E D I;refine callsIn_of_wp Tryz.func130 rfl X ?_ al;simp only [Tryz.ntmps130,List.size_toArray,List.length_cons,List.length_nil,Nat.reduceAdd,Nat.reduceSub,Array.replicate_succ,Array.replicate_zero,List.push_toArray,List.append_toArray,List.nil_append,List.cons_append]
 gi_wp2
 gi_loopw [4] (fun p wr=>∃ (a:List Int) (x:Int),p=zI x/\x<d/\a++zK l x=zK l q/\Boxed wr k 37 (.slice (zO b j) d cap)/\Below u c wr/\g a wr)
  (fun p _=>(intOf p+1).toNat)
 case atStart=>exact ⟨[],q,rfl,ak,rfl,Y,Below.refl _ _,W⟩
 case round =>
  obtain ⟨a,x,rfl,aq,J,ag,G,C⟩:=hrel;have r:=zh J;have O:=zh G;clear J G;by_cases am:0<=x
  ·obtain ⟨P,rfl⟩:=Int.eq_ofNat_of_zero_le am;have ab:P<d:=(by omega);have ap:(P:Int)<d:=(by omega);have aj:=z.o.par P (by have:=y.o;omega);have h:=zh (Y8 z.o (q:=(P:Int)) (by omega) (by have:=y.o;omega));rw [Int.toNat_natCast] at h;have ah:a.length<5:=by
    have B:=WY l q;rw [<-r.o,h.o] at B;simp at B;omega
   obtain ⟨m,t⟩:=qA ((qu l P).parent);have U:=zh t;rw [t] at aj h;clear t;obtain ⟨fn,tmps,assign,body,ar,ad⟩:=ae a P wr C ah
   gi_wp2
   refine ad.mono ?_;rintro e V (⟨rfl,Z,L⟩ | ⟨rfl,aa⟩)
   ·have H:=L.2 _ ag;have s:=O.o.trans L.1;have c1:V.cell? (zA b (j+P*3+1))=some (zI m):=(s.cell (p:=(zA b (j+P*3+1))) af).trans (by rw [R.o P ab,U.o]);have an:=H.cell;have Q:=zh s;clear s
    gi_wp2
    go_roundw
    case rel=>exact ⟨a++[(P:Int)],m,rfl,by omega,by rw [<-r.o,h.o];simp,H,Q.o,Z⟩
    case measure=>simp [intOf];omega
   gi_wp2
   refine bodyPost_ret (results_none rfl _ _ _) rfl ?_;exact ⟨⟨_,rfl⟩,.inr ⟨a++[(P:Int)],⟨zK l m,by rw [<-r.o,h.o];simp⟩,aa⟩⟩
  have ai:=WZ (l:=l) (q:=x) (by omega);have S:Zh (a=zK l q):=by have:=r.o;rw [ai,List.append_nil] at this;exact this
  gi_wp2
  go_end0
  exact ⟨⟨_,rfl⟩,.inl (by rw [<-S.o];exact C)⟩
theorem Hj (F:Fence) (n:Nat) (t:F.fn 130) (D:F.round=none) (hn:1<=n) (d a e b f c cap:Nat) (l:QL) (q:Int) (v:Right l) (u:c=l.length) (C:q<c) (w:World)
 (j:Boxed w d 3 (zI q)) (h:Boxed w a 37 (.slice (zO b f) c cap)) (B:e<=w.heap.size) (k:b<e)
 (z:∀ i,i<c->w.cell? (zA b (f+i*3+1))=some (zI (qu l i).parent)) :
 SeqStopsK F n Tryz.prog 130 #[.pointer (zO d 0),.pointer (zO a 0)] (fun x:Int=>#[Value.int .i64 x]) (YO e a) (fun H=>H=zK l q) (fun G=>G <+: zK l q) 5 w:=fun E m o r g _ _ y s =>
 Ft F n t D hn E d a e b f c cap l q v u C m o y r ((g.cell (p:=(zA d 0)) j.lt).trans j.cell) ((g.block a h.lt).trans h) k
  (fun i A=>(g.cell (p:=(zA b (f+i*3+1))) (Nat.lt_of_lt_of_le k B)).trans (z i A)) s
theorem zG.base {w:World} {B a:Nat} {v:Value} {l:List Int} (h:zG w B v l) (f:a<=B):zG w a v l:=by
 refine ⟨h.1,?_⟩;rcases h.2 with c | ⟨g,cap,b,e,hg,d⟩
 ·exact Or.inl c
 exact Or.inr ⟨g,cap,b,e,by omega,d⟩
theorem Uz {F:Fence} {n:Nat} {P:Program} {fn:Func} {tmps:Array Value} {g:Ending->World->Prop} (B:Nat):∀ (b:List Nat) (a:World),B<=a.heap.size->b.Nodup->(∀ D∈b,B<=D/\a.heap[D]?=some (.deferred (some []))) ->
 (∀ c,Below B a c->LeavesIn F n P fn tmps g [] .returning c)->LeavesInM F n P fn tmps g (b.map fun D=>{ target:=.collected D,args:=#[] }) .returning a
 | [],a,_,_,_,h=>h a (Below.refl _ _)
 | D::b,a,hB,hnd,hm,h=>by
  have i:=hm D (by simp);have j:Below B a (a.putObj D (.deferred none)):=(Below.refl B a).grown (grownBy_putObj' a D _) hB (fun k e=>by cases e;exact i.1);rw [List.nodup_cons] at hnd;refine ⟨by simp,.inl ⟨D,_,rfl,run_takeDeferred i.2,Uz B b _ (Nat.le_trans hB j.size) hnd.2 (fun f d=>⟨(hm f (by simp [d])).1,?_⟩) (fun c l=>h c (j.trans l))⟩⟩;rw [World.putObj_heap_other (fun e=>by subst e;exact hnd.1 d)];exact (hm f (by simp [d])).2
structure After (W0 W':World) (G n:Nat) (g:Nat->Value):Prop where
 os:W'.os=W0.os
 tape:W'.tape=W0.tape
 output:W'.output=W0.output
 size:W0.heap.size<=W'.heap.size
 block:∀ k,k<W0.heap.size->k≠G->W'.heap[k]?=W0.heap[k]?
 row:W'.rowIs G 4 n g
theorem After.own {i:Type} {W0:World} {b n B:Nat} {g:Nat->Value} (l:W0.heap.size<=B) (m:b<W0.heap.size):OwnFrom B (fun (_:i) f=>After W0 f b n g):=fun _ X j row a hg d =>
 ⟨hg.os.trans a.os,hg.tape.trans a.tape,hg.output.trans a.output,Nat.le_trans a.size hg.size,
  fun k c h=>(hg.block k (Nat.lt_of_lt_of_le c a.size) (fun e=>by have:=(d k e.symm).1;omega)).trans (a.block k c h),
  a.row.of_block (hg.block b a.row.lt (fun e=>by have:=(d b e.symm).1;omega))⟩
theorem After.box {W0 b:World} {a n:Nat} {g:Nat->Value} (h:After W0 b a n g) {B t:Nat} {v:Value} (c:Boxed W0 B t v) (d:B≠a):Boxed b B t v:=(h.block B c.lt d).trans c
theorem After.hit {W0 b:World} {a n:Nat} {g:Nat->Value} (h:After W0 b a n g) (j:Nat) (v:Value):After W0 (b.setCell (zA a j) v) a n (fun i=>if i=j then v else g i) :=
 ⟨h.os,h.tape,h.output,by rw [show (b.setCell (zA a j) v).heap.size=b.heap.size by simp [World.setCell]];exact h.size,
  fun k d c=>(Below.heap_setCell _ _ _ k c).trans (h.block k d c),h.row.set j v⟩
theorem After.below {W0 b:World} {a n B:Nat} {g:Nat->Value} (h:After W0 b a n g) (c:B<=a) (e:a<W0.heap.size):Below B W0 b :=
 ⟨h.os,h.tape,h.output,h.size,fun k d=>h.block k (by omega) (by omega)⟩
def FD (wq w1s b off n cap:Nat) (l:QL) (q:Int) (W1:World) (a:Act) (W:World):Prop :=
 ∃ (j:Nat) (f:Nat->Value) (ds:List Nat) (u8 u22 u23 u24 u25 u26 u34:Value),a={ tmps:=#[.slice (zO b off) n cap,zI q,undef,.pointer (zO wq 0),zN,zI 0,zI 0,.pointer (zO (w1s+1) 0),u8,undef,.slice (zO b off) n cap,zI q,zI 0,zI 0,.bool false,undef,.slice (zO b off) n cap,zI n,.slice (zO w1s 0) n n,.slice (zO b off) n cap,zI n,zI j,u22,u23,u24,u25,u26,undef,undef,undef,undef,undef,undef,undef,u34,undef],defers:=ds.map fun D=>{ target:=.collected D,args:=#[] } } /\
  j<=n/\After W1 W w1s n f/\(∀ i,i<j->f i=.bool (yG l (i:Int) q))/\(∀ i,j<=i->i<n->f i=.bool false)/\(∀ D∈ds,w1s+2<=D/\D<W.heap.size/\W.heap[D]?=some (.deferred (some [])))/\ds.Nodup
def FW (n:Nat) (a:Act) (_:World):Nat:=n-(intOf (a.tmps.getD 21 undef)).toNat
theorem Qd {I d b p n cap:Nat} {l:QL} {q:Int} {u h W0 t:World} {j D:Nat} {f g:Nat->Value} {r:List Nat} {u8 B C E F G H:Value} (M:j<n) (o:After u h d n f) (a:Below h.heap.size h W0) (c:After W0 t d n g) (U:d+2<=h.heap.size) (S:u.heap.size=d+2)
 (O:∀ i,i<j->f i=.bool (yG l (i:Int) q)) (L:∀ i,j<=i->i<n->f i=.bool false) (z:∀ D∈r,d+2<=D/\D<h.heap.size/\h.heap[D]?=some (.deferred (some []))) (P:r.Nodup)
 (Q:W0.heap.size<=D) (x:t.heap[D]?=some (.deferred (some []))) (hg:g j=.bool (yG l (j:Int) q)) (y:∀ i,i≠j->g i=f i) :
 FD I d b p n cap l q u { tmps:=#[.slice (zO b p) n cap,zI q,undef,.pointer (zO I 0),zN,zI 0,zI 0,.pointer (zO (d+1) 0),u8,undef,.slice (zO b p) n cap,zI q,zI 0,zI 0,.bool false,undef,.slice (zO b p) n cap,zI n,.slice (zO d 0) n n,.slice (zO b p) n cap,zI n,zI ((j:Int)+1),B,C,E,F,G,undef,undef,undef,undef,undef,undef,undef,H,undef],defers:={ target:=.collected D,args:=#[] }::(r.map fun D=>{ target:=.collected D,args:=#[] }) } t:=by
 refine ⟨j+1,g,D::r,u8,B,C,E,F,G,H,by simp,M,?_,fun i R=>?_,fun i w v=>?_,fun s m=>?_,?_⟩
 ·exact ⟨c.os.trans (a.os.trans o.os),c.tape.trans (a.tape.trans o.tape),c.output.trans (a.output.trans o.output),Nat.le_trans o.size (Nat.le_trans a.size c.size),
   fun k N A=>(c.block k (by have:=a.size;omega) A).trans ((a.block k (by omega)).trans (o.block k N A)),c.row⟩
 ·by_cases e:i=j
  ·subst e;exact hg
  rw [y i e];exact O i (by omega)
 ·rw [y i (by omega)];exact L i (by omega) v
 ·rw [List.mem_cons] at m;rcases m with rfl | m
  ·exact ⟨by have:=a.size;omega,(Array.getElem?_eq_some_iff.1 x).1,x⟩
  obtain ⟨w,v,J⟩:=z s m;exact ⟨w,by have:=a.size;have:=c.size;omega,(c.block s (by have:=a.size;omega) (by omega)).trans ((a.block s v).trans J)⟩
 ·rw [List.nodup_cons];exact ⟨fun m=>by have:=(z D m).2.1;have:=a.size;omega,P⟩
theorem Pc {zs:List Int} {q:Int}:∀ {k:Nat},WS zs q k=true↔∃ i,i<k/\zs.getD i 0=q
 | 0=>by simp [WS]
 | k+1=>by
  simp only [WS,Bool.or_eq_true,Pc (k:=k),beq_iff_eq]
  constructor
  ·rintro (⟨i,b,a⟩ | h)
   ·exact ⟨i,by omega,a⟩
   exact ⟨k,by omega,h⟩
  rintro ⟨i,b,a⟩;by_cases e:i=k
  ·subst e;exact Or.inr a
  exact Or.inl ⟨i,by omega,a⟩
theorem Wu {l:QL} {k q:Int}:yG l k q=true↔q∈zK l k:=by
 rw [yG,Pc]
 constructor
 ·rintro ⟨i,a,b⟩;rw [<-b,List.getD,List.getElem?_eq_getElem a];exact List.getElem_mem a
 intro h;obtain ⟨i,a,b⟩:=List.mem_iff_getElem.1 h;exact ⟨i,a,by rw [List.getD,List.getElem?_eq_getElem a];exact b⟩
theorem Lu {l:QL} {k q:Int} (h:∀ x∈zK l k,x≠q):yG l k q=false:=by
 cases g:yG l k q with
 | false=>rfl
 | true=>exact absurd rfl (h q (Wu.1 g))
def GC:ByteArray:=⟨#[97,108,108]⟩
def Oj:ByteArray:=⟨#[110,111,114,116,104]⟩
def Ok:ByteArray:=⟨#[115,111,117,116,104]⟩
def L3:ByteArray:=⟨#[98,97,114,110]⟩
def fL (c:Nat) (p m:Int):QL:=[⟨GC,-1,zO c 0,1,1,[(0,10)]⟩,⟨Oj,p,zO (c+1) 0,2,2,[(0,8),(20,4)]⟩,⟨Ok,0,zO (c+2) 0,1,1,[(0,m)]⟩,⟨L3,1,zO (c+3) 0,1,1,[(0,8)]⟩]
def MQ (c:Nat) (p:Int):Array Value:=#[.string GC,zI (-1),.slice (zO c 0) 1 1,.string Oj,zI p,.slice (zO (c+1) 0) 2 2,.string Ok,zI 0,.slice (zO (c+2) 0) 1 1,.string L3,zI 1,.slice (zO (c+3) 0) 1 1]
structure FieldIn (w:World) (c:Nat) (p m:Int):Prop where
 b0:w.heap[c]?=some (.cells #[zI 0,zI 10] 55 (0,0))
 b1:w.heap[c+1]?=some (.cells #[zI 0,zI 8,zI 20,zI 4] 55 (0,0))
 b2:w.heap[c+2]?=some (.cells #[zI 0,zI m] 55 (0,0))
 b3:w.heap[c+3]?=some (.cells #[zI 0,zI 8] 55 (0,0))
 b4:w.heap[c+4]?=some (.cells (MQ c p) 66 (0,0))
theorem xG {w:World} {g:Nat} {cs:Array Value} {t:TypeId} (h:w.heap[g]?=some (.cells cs t (0,0))) (l:zd) (n:Nat) (c:cs.toList=cellsOf l) (hn:n=l.length) (d:l.length<=48):RunsIn w (zO g 0) n n l:=by
 refine ⟨hn,Nat.le_refl _,by omega,by omega,fun _=>⟨g,0,rfl,fun i e=>?_⟩⟩;rw [cell_of_row w g _ _ _ _ h,cell_of_row w g _ _ _ _ h];have a:=xr l i (by omega);have b:=xJ l i (by omega);rw [<-c] at a b;simp only [Array.getElem?_toList] at a b;rw [Nat.zero_add];exact ⟨a,b⟩
theorem FieldIn.qs {w:World} {c:Nat} {p m:Int} (h:FieldIn w c p m):QsIn w (zO (c+4) 0) 4 4 (fL c p m):=by
 refine ⟨rfl,Nat.le_refl _,by omega,fun _=>⟨c+4,0,rfl,fun i a=>?_⟩,fun i a=>?_,fun i a=>?_⟩
 ·rw [cell_of_row w _ _ _ _ _ h.b4,cell_of_row w _ _ _ _ _ h.b4,cell_of_row w _ _ _ _ _ h.b4]
  match i,a with
  | 0,_=>exact ⟨rfl,rfl,rfl⟩
  | 1,_=>exact ⟨rfl,rfl,rfl⟩
  | 2,_=>exact ⟨rfl,rfl,rfl⟩
  | 3,_=>exact ⟨rfl,rfl,rfl⟩
 ·match i,a with
  | 0,_=>exact xG h.b0 [(0,10)] 1 rfl rfl (by decide)
  | 1,_=>exact xG h.b1 [(0,8),(20,4)] 2 rfl rfl (by decide)
  | 2,_=>exact xG h.b2 [(0,m)] 1 rfl rfl (by simp)
  | 3,_=>exact xG h.b3 [(0,8)] 1 rfl rfl (by decide)
 match i,a with
 | 0,_=>show GC.size<=9223372036854775807;decide
 | 1,_=>show Oj.size<=9223372036854775807;decide
 | 2,_=>show Ok.size<=9223372036854775807;decide
 | 3,_=>show L3.size<=9223372036854775807;decide
theorem FieldIn.later {w w':World} {c:Nat} {p m:Int} (h:FieldIn w c p m) (a:Below w.heap.size w w'):FieldIn w' c p m:=by
 have b:c+4<w.heap.size:=(Array.getElem?_eq_some_iff.1 h.b4).1;exact ⟨(a.block _ (by omega)).trans h.b0,(a.block _ (by omega)).trans h.b1,(a.block _ (by omega)).trans h.b2,(a.block _ (by omega)).trans h.b3,(a.block _ (by omega)).trans h.b4⟩
theorem FieldIn.parent {w:World} {c:Nat} {p m:Int} (h:FieldIn w c p m) (a:Int):FieldIn (w.setCell (zA (c+4) 4) (zI a)) c a m:=by
 refine ⟨(heap_setCell_other _ _ _ _ (by simp)).trans h.b0,(heap_setCell_other _ _ _ _ (by simp)).trans h.b1,(heap_setCell_other _ _ _ _ (by simp)).trans h.b2,(heap_setCell_other _ _ _ _ (by simp)).trans h.b3,?_⟩;rw [heap_setCell_same _ _ _ _ _ _ h.b4];rfl
theorem FieldIn.cap {w:World} {c:Nat} {p m:Int} (h:FieldIn w c p m) (a:Int):FieldIn (w.setCell (zA (c+2) 1) (zI a)) c p a:=by
 refine ⟨(heap_setCell_other _ _ _ _ (by simp)).trans h.b0,(heap_setCell_other _ _ _ _ (by simp)).trans h.b1,?_,(heap_setCell_other _ _ _ _ (by simp)).trans h.b3,(heap_setCell_other _ _ _ _ (by simp)).trans h.b4⟩;rw [heap_setCell_same _ _ _ _ _ _ h.b2];rfl
theorem Iz (w:World) (a b c d e:Obj):(((((w.alloc a).alloc b).alloc c).alloc d).alloc e).heap[w.heap.size]?=some a/\(((((w.alloc a).alloc b).alloc c).alloc d).alloc e).heap[w.heap.size+1]?=some b /\
 (((((w.alloc a).alloc b).alloc c).alloc d).alloc e).heap[w.heap.size+2]?=some c/\(((((w.alloc a).alloc b).alloc c).alloc d).alloc e).heap[w.heap.size+3]?=some d/\(((((w.alloc a).alloc b).alloc c).alloc d).alloc e).heap[w.heap.size+4]?=some e:=by
 have k:(w.alloc a).heap.size=w.heap.size+1:=by simp
 have l:((w.alloc a).alloc b).heap.size=w.heap.size+2:=by simp
 have m:(((w.alloc a).alloc b).alloc c).heap.size=w.heap.size+3:=by simp
 have n:((((w.alloc a).alloc b).alloc c).alloc d).heap.size=w.heap.size+4:=by simp
 have j:=heap_alloc_new w a;have f:=heap_alloc_new (w.alloc a) b;have g:=heap_alloc_new ((w.alloc a).alloc b) c;have h:=heap_alloc_new (((w.alloc a).alloc b).alloc c) d;have i:=heap_alloc_new ((((w.alloc a).alloc b).alloc c).alloc d) e;rw [k] at f;rw [l] at g;rw [m] at h;rw [n] at i;refine ⟨?_,?_,?_,?_,i⟩
 ·rw [Below.heap_alloc _ _ _ (by omega),Below.heap_alloc _ _ _ (by omega),Below.heap_alloc _ _ _ (by omega),Below.heap_alloc _ _ _ (by omega)];exact j
 ·rw [Below.heap_alloc _ _ _ (by omega),Below.heap_alloc _ _ _ (by omega),Below.heap_alloc _ _ _ (by omega)];exact f
 ·rw [Below.heap_alloc _ _ _ (by omega),Below.heap_alloc _ _ _ (by omega)];exact g
 ·rw [Below.heap_alloc _ _ _ (by omega)];exact h
theorem MX (w:World) (a b c d e:Obj):Below w.heap.size w (((((w.alloc a).alloc b).alloc c).alloc d).alloc e) :=
 (((((Below.refl _ w).alloc (Nat.le_refl _) _).alloc (by simp) _).alloc (by simp;omega) _).alloc (by simp;omega) _).alloc (by simp;omega) _
theorem Q7 (w:World):zC 37 #[] w fun e w'=>e=.returned (.slice (zO (w.heap.size+4) 0) 4 4)/\FieldIn w' w.heap.size 0 6/\Below w.heap.size w w':=by
 go_enter Tryz.func37,Tryz.ntmps37;go_wp2;go_ret;obtain ⟨a,b,c,d,f⟩:=Iz w (.cells #[zI 0,zI 10] 55) (.cells #[zI 0,zI 8,zI 20,zI 4] 55) (.cells #[zI 0,zI 6] 55) (.cells #[zI 0,zI 8] 55) (.cells (MQ w.heap.size 0) 66);exact ⟨rfl,⟨a,b,c,d,f⟩,MX w _ _ _ _ _⟩
end Go.Proofs.YtckpdfkobdgjeaaGreatDoor
