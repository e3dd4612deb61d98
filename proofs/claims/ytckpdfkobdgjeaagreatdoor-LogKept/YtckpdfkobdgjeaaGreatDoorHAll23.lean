/- Several texts in one: RefH, RefI. -/
import Derived.Laws.Rows
import Derived.Laws.CopyOwn
import Derived.Deep.RegionWith
import Derived.Test.YtckpdfkobdgjeaaGreatDoorHAll22
namespace Go.Proofs.YtckpdfkobdgjeaaGreatDoor
set_option maxRecDepth 100000
set_option maxHeartbeats 4000000
open Go.RowKit
def ya (f:Nat->Int):Array Value:=((List.range 48).map fun i=>Value.int .i64 (f i)).toArray
theorem ZS (f:Nat->Int):(ya f).size=48:=by simp [ya]
theorem Vp (f:Nat->Int) (i:Nat) (h:i<48):(ya f)[i]?=some (zI (f i)):=by
 simp [ya,h]
theorem Wv {f g:Nat->Int} (h:∀ i,i<48->f i=g i):ya f=ya g:=by
 unfold ya
 congr 1
 apply List.map_congr_left;intro i a;rw [h i (List.mem_range.1 a)]
def JK (f:Nat->Int) (t:Nat) (x:Int) (i:Nat):Int:=if i=t then x else f i
theorem Hd (f:Nat->Int) (t:Nat) (x:Int):(ya f).setIfInBounds t (zI x)=ya (JK f t x):=by
 apply Array.ext_getElem?;intro i;rw [Array.getElem?_setIfInBounds];by_cases a:i<48
 ·by_cases e:t=i
  ·subst e;rw [if_pos rfl,Vp _ _ a,if_pos (by rw [ZS];exact a)];simp [JK]
  rw [if_neg e,Vp _ _ a,Vp _ _ a];rw [show JK f t x i=f i from if_neg (fun h=>e h.symm)]
 have b:∀ f,(ya f)[i]?=none:=fun f=>by rw [Array.getElem?_eq_none_iff,ZS];omega
 rw [b,b];by_cases e:t=i
 ·rw [if_pos e,if_neg (by rw [ZS];omega)]
 rw [if_neg e]
theorem NY (f:Nat->Int):(ya f).all (·.oneCell')=true:=by
 rw [Array.all_eq_true_iff_forall_mem];intro v a;simp only [ya,List.mem_toArray,List.mem_map] at a;obtain ⟨i,_,rfl⟩:=a;rfl
theorem Tt:ya (fun _=>0)=#[Value.int .i64 0,zI 0,zI 0,zI 0,zI 0,zI 0,zI 0,zI 0,zI 0,zI 0,zI 0,zI 0,zI 0,zI 0,zI 0,zI 0,zI 0,zI 0,zI 0,zI 0,zI 0,zI 0,zI 0,zI 0,zI 0,zI 0,zI 0,zI 0,zI 0,zI 0,zI 0,zI 0,zI 0,zI 0,zI 0,zI 0,zI 0,zI 0,zI 0,zI 0,zI 0,zI 0,zI 0,zI 0,zI 0,zI 0,zI 0,zI 0]:=rfl
def ZU (w:World) (g:Nat) (f:Nat->Int):Prop:=w.heap[g]?=some (.cells (ya f) 126 (0,0))
theorem ZU.cell {w:World} {g:Nat} {f:Nat->Int} (h:ZU w g f) {i:Nat} (a:i<48):w.cell? (zA g i)=some (zI (f i)):=by
 rw [cell_of_row w g i _ _ _ h,Vp f i a]
theorem ZU.frozen {w:World} {g:Nat} {f:Nat->Int} (h:ZU w g f) (i:Nat):w.frozen? (zA g i)=false:=frozen_of_row w g i _ _ h
theorem ZU.lt {w:World} {g:Nat} {f:Nat->Int} (h:ZU w g f):g<w.heap.size:=(Array.getElem?_eq_some_iff.1 h).1
theorem ZU.set {w:World} {g:Nat} {f:Nat->Int} (h:ZU w g f) (t:Nat) (x:Int):ZU (w.setCell (zA g t) (zI x)) g (JK f t x):=by
 unfold ZU;rw [heap_setCell_same w g t _ _ _ h,Hd]
theorem ZU.other {w:World} {g:Nat} {f:Nat->Int} (h:ZU w g f) {a:Addr} (b:g≠a.block) (v:Value):ZU (w.setCell a v) g f:=by
 unfold ZU;rw [heap_setCell_other w a g v b];exact h
theorem ZU.new (w:World) (f:Nat->Int):ZU (w.alloc (.cells (ya f) 126)) w.heap.size f:=heap_alloc_new w _
theorem ZU.alloc {w:World} {g:Nat} {f:Nat->Int} (h:ZU w g f) (o:Obj):ZU (w.alloc o) g f:=by
 unfold ZU;rw [Below.heap_alloc w o g h.lt];exact h
theorem ZU.later {w w':World} {g:Nat} {f:Nat->Int} (h:ZU w g f) (a:Below w.heap.size w w'):ZU w' g f:=by
 unfold ZU;rw [a.block g h.lt];exact h
theorem Tryz.size61:(Tryz.prog.info? 126).map (·.size)=some 48:=by kernel_rfl
theorem size61 (f:Nat->Int):(Tryz.prog.info? 126).map (·.size)=some (ya f).size:=by rw [ZS];exact Tryz.size61
theorem Ly {f v:Nat->Int} {t:Nat} {x:Int} (h:∀ i,i<t->f i=v i) (a:x=v t):∀ i,i<t+1->JK f t x i=v i:=by
 intro i b;by_cases e:i=t
 ·subst e;rw [JK,if_pos rfl];exact a
 rw [JK,if_neg e];exact h i (by omega)
theorem NW {l:zd} (f:zW l) {t k:Nat} (h:k<l.length) (c:zp l k<=t) (d:k+1<l.length->(t:Int)<=zp l (k+1)) :
 (k+1<l.length/\zp l (k+1)=t->yH l t (k+1))/\(¬(k+1<l.length/\zp l (k+1)=t)->yH l t k):=by
 refine ⟨fun ⟨b,i⟩=>⟨b,by omega,fun a=>by have:=f.lt a;omega⟩,fun g=>⟨h,c,fun a=>?_⟩⟩;have:=d a;by_cases e:zp l (k+1)=t
 ·exact absurd ⟨a,e⟩ g
 ·omega
theorem Lt (w:World) (b J n cap:Nat) (l:zd) (h:RunsIn w (zO b J) n cap l) (C:zW l) :
 zC 71 #[.slice (zO b J) n cap] w fun e w'=>e=.returned (.agg (ya (zn l)))/\Below w.heap.size w w':=by
 have c:Zh (n=l.length):=h.len;have E:0<n:=by rw [c.o];exact C.1
 obtain ⟨R,ad,e,D⟩:=h.cells E;cases e
 have r:=zh D;have Y:b<w.heap.size:=block_lt_of_cell (D 0 E).1;have ab:=h.le;have S:=h.bound;have m:=zh C;clear D C;go_enter Tryz.func71,Tryz.ntmps71;go_wp2;go_loopw [4,5] (fun Q a wr=>∃ (t k:Nat) (f:Nat->Int),a=zI t/\t<=48/\Q=zI k/\k<n/\zp l k<=t/\(k+1<n->(t:Int)<=zp l (k+1))/\(∀ i,i<t->f i=zn l i)/\ZU wr w.heap.size (fun _=>0)/\ZU wr (w.heap.size+1) f/\zL w wr) (fun _ a _=>48-(intOf a).toNat)
 case atStart =>
  refine ⟨0,0,fun _=>0,rfl,by omega,rfl,E,by rw [m.o.at0];exact Int.le_refl _,fun W=>by have:=m.o.nonneg (i:=1) (by have:=c.o;omega);exact this,fun i X=>by omega,?_,?_,?_⟩
  ·rw [<-Tt];exact (ZU.new w _).alloc _
  ·rw [<-Tt];have:=ZU.new (w.alloc (.cells (ya fun _=>0) 126)) (fun _=>0);rwa [World.size_alloc] at this
  exact (zr _ _).alloc (by simp) _
 case round =>
  obtain ⟨t,k,f,rfl,Z,rfl,x,G,H,u,q,g,s⟩:=hrel;by_cases P:t<48
  ·have aa:(t:Int)<48:=(by omega);have A:Zh (ZU wr (w.heap.size+1) f):=g;have B:Zh (ZU wr w.heap.size (fun _=>0)):=q;have ae:=g.cell P;have af:=g.frozen t;have d:=zh s;have z:=zh u;have a:=zh (NW m.o (by have:=c.o;omega) G (fun h=>H (by have:=c.o;omega)));clear u q g s G H;by_cases p:k+1<n
   ·have O:(k:Int)+1<n:=(by omega);have U:=cell_later d.o (r.o (k+1) p).1;have M:=cell_later d.o (r.o k x).2;have V:=cell_later d.o (r.o (k+1) p).2;by_cases j:zp l (k+1)=(t:Int)
    ·have N:(zp l (k+1)==(t:Int))=true:=(by simp [j]);have y:=zh j;clear j;go_wp2;go_roundw
     case rel=>exact ⟨t+1,k+1,_,by go_num,by omega,by go_num,p,by have:=y.o;omega,fun h=>by have:=(a.o.1 ⟨by have:=c.o;omega,y.o⟩).2.2 (by have:=c.o;omega);omega,Ly z.o ((a.o.1 ⟨by have:=c.o;omega,y.o⟩).val m.o.rises),B.o.other (by simp) _,A.o.set t _,d.o.setCell (by simp) _⟩
     case measure=>simp [intOf];omega
    have N:(zp l (k+1)==(t:Int))=false:=(by simp [j]);go_wp2;go_roundw
    case rel=>exact ⟨t+1,k,_,by go_num,by omega,rfl,x,by have:=(a.o.2 (fun h=>j h.2)).2.1;omega,fun h=>by have:=(a.o.2 (fun h=>j h.2)).2.2 (by have:=c.o;omega);omega,Ly z.o ((a.o.2 (fun h=>j h.2)).val m.o.rises),B.o.other (by simp) _,A.o.set t _,d.o.setCell (by simp) _⟩
    case measure=>simp [intOf];omega
   have O:¬(k:Int)+1<n:=(by omega);have M:=cell_later d.o (r.o k x).2;go_wp2;go_roundw
   case rel=>exact ⟨t+1,k,_,by go_num,by omega,rfl,x,by have:=(a.o.2 (fun h=>p (by have:=c.o;omega))).2.1;omega,fun h=>absurd h p,Ly z.o ((a.o.2 (fun h=>p (by have:=c.o;omega))).val m.o.rises),B.o.other (by simp) _,A.o.set t _,d.o.setCell (by simp) _⟩
   case measure=>simp [intOf];omega
  obtain rfl:t=48:=by omega
  have I:ya f=ya (zn l):=Wv u;unfold ZU at q g;rw [I] at g;have F:=zh q;have L:=zh g;have d:=zh s;clear q g s u I;go_wp2_with (first
   | refine wpList_load_row rfl 126 (.tmp 3) rfl (w.heap.size+1) rfl 126 (ya (zn l)) (0,0) _ L.o Tryz.underlying126 rfl (size61 _) ?_
   | refine wpList_store_row rfl 126 (.tmp 2) (.tmp 34) rfl w.heap.size (ya (zn l)) rfl rfl 126 _ F.o (size61 _) (by rw [ZS,ZS]) (NY _) ?_)
  exact bodyPost_ret (v:=.agg (ya (zn l))) (results_cell_row Tryz.results71 _ _ w.heap.size 126 (ya (zn l)) (0,0) _ rfl (setRow_heap _ _ _ _ _ _ F.o) Tryz.underlying126 rfl (size61 _)) rfl ⟨rfl,below_setRow d.o (Nat.le_refl _) _⟩
theorem T8 (f:Nat->Int) (t:Int) (d:0<=t) (e:t<48) (w:World):(Instr.index 126 (.agg (ya f)) (zI t)).run Tryz.prog w=.ok (zI (f t.toNat)) w:=by
 have hg:=Vp f t.toNat (by omega);have c:=Tryz.underlying126;have a:=Tryz.underlying3;have b:(sizeOf 3).run Tryz.prog w=.ok 1 w:=by kernel_rfl
 simp only [Instr.index,Sem.run_bind,asIntOf,Sem.run_pure,Result.andThen_ok,run_underlying c];rw [if_pos (by constructor <;> omega)];simp only [Sem.run_bind,b,Result.andThen_ok,part,isAgg,run_underlying a,Nat.mul_one,hg];rfl
theorem R9 (w:World) (a:Option Addr) (n cap:Nat) (l:zd) (h:RunsIn w a n cap l) (c:zW l) :
 zC 71 #[.slice a n cap] w fun e w'=>e=.returned (.agg (ya (zn l)))/\Below w.heap.size w w':=by
 obtain ⟨b,d,rfl,_⟩:=h.cells (by rw [h.len];exact c.1);exact Lt w b d n cap l h c
def XD (l:QL) (b:BL) (t q:Nat):Bool:=decide (zn (qu l q).runs t<xh l b q t b.length)
def Vu (fm:Nat) (l:QL) (b:BL) (t q:Int) (f:Bool):Prop :=
 (f=false/\t=0/\q=0/\∀ u:Nat,fm<=u->u<48->∀ k,k<l.length->XD l b u k=false) \/
 (f=true/\∃ T k:Nat,t=T/\q=k/\fm<=T/\T<48/\k<l.length/\XD l b T k=true/\(∀ i,i<k->XD l b T i=false)/\∀ u:Nat,fm<=u->u<T->∀ i,i<l.length->XD l b u i=false)
def Kf (w w':World) (e:Ending) (fm:Nat) (l:QL) (b:BL):Prop:=∃ t q f,e=.returned (.tuple #[zI t,zI q,.bool f])/\Vu fm l b t q f/\Below w.heap.size w w'
theorem J4 (w:World) (ao:Option Addr) (k s:Nat) (l:QL) (ba:Option Addr) (bn bc:Nat) (b:BL) (h:zY w ao k s l ba bn bc b) (W:Clean l b) (fm:Nat) (ay:fm<=48) :
 zC 57 #[.slice ao k s,.slice ba bn bc,zI fm] w fun e w'=>Kf w w' e fm l b:=by
 have ar:=zh h;have ad:=zh W;have L:=zh h.1.len;have aP:=h.1.le;have aN:=h.1.capb;have P:=yY W.tree;have aD:0<k:=by have:=P.pos;have:=h.1.len;omega
 have aM:k<=5:=by have:=P.five;have:=h.1.len;omega
 clear h W P;go_enter Tryz.func57,Tryz.ntmps57;go_wp2_with fail
 go_loopg [9] (48-fm) (fun N (p:Value) wr=>∃ (t:Nat),p=zI t/\fm<=t/\t<=48/\N=48-t/\(∀ z:Nat,fm<=z->z<t->∀ i,i<l.length->XD l b z i=false)/\zL w wr)
 case atStart=>exact ⟨fm,rfl,Nat.le_refl _,ay,rfl,fun z B ag=>by omega,Below.refl _ _⟩
 case round =>
  obtain ⟨t,rfl,az,aO,rfl,al,ai⟩:=hrel;have H:=zh al;have aa:=zh ai;clear al ai;by_cases aA:t<48
  ·have aB:(t:Int)<48:=(by omega);go_wp2_with fail
   go_loopg [10] k (fun N (p:Value) G=>∃ (q:Nat),p=zI q/\q<=k/\N=k-q/\(∀ i,i<q->XD l b t i=false)/\zL w G)
   case atStart=>exact ⟨0,rfl,Nat.zero_le _,rfl,fun i X=>by omega,aa.o⟩
   obtain ⟨q,rfl,aL,rfl,am,V⟩:=hrel;have I:=zh am;have ab:=zh V;clear am;by_cases ak:q<k
   ·have aJ:(q:Int)<k:=(by omega);have aK:¬((q:Int)<0):=(by omega);have F:=ar.o.later V;obtain ⟨x,y,aE,aj⟩:=F.1.cells aD;subst aE;obtain ⟨m,O⟩:=qA (qu l q);have M:=(aj q ak).2.2;have C:=F.1.caps q ak;have D:=Yx ad.o.tree (p:=q) (by have:=L.o;omega);have Y:XD l b t q=decide (zn m.runs t<xh l b q t b.length):=(by rw [XD,O]);rw [O] at M C D;obtain ⟨u,R⟩:=qA (zn m.runs);obtain ⟨A,Q⟩:=qA (xh l b q t b.length);have ap:=zh M;have aG:=zh C;have aH:=zh D;have av:Zh (∀ r,zL wr r->zC 99 #[.slice (zO x y) k s,.slice ba bn bc,zI q,zI t] r fun e w'=>e=.returned (zI A)/\zL r w'):=fun r S=>by
     have:=LD r _ k s l ba bn bc b (F.later S) ad.o q t (by omega);rwa [Q] at this
    have au:Zh (∀ r,zL wr r->zC 71 #[.slice m.ca m.cn m.cc] r fun e w'=>e=.returned (.agg (ya u))/\zL r w'):=fun r S=>by
     have:=R9 r m.ca m.cn m.cc m.runs (C.later S) D.1;rwa [R] at this
    rw [R,Q] at Y;have aq:=zh Y;clear F aj M C D O R Q Y V;go_upto_region 7 with fail
    go_cut [35] (fun p G=>∃ aw,aw=G/\p=.bool (XD l b t q)/\zL wr G)
    case first =>
     refine zV ((Tryz.f57.body.bind fun c=>yi c 7).getD #[]) (by kernel_rfl) [zl (.slice (zO x y) k s),zl (.slice ba bn bc),zl (zI q),zl (zI t),zl (zI A),zl (.slice (zO x y) k s),zl (zI q),zl (.pointer (zO x (y+q*3))),zl (.pointer (zO x (y+q*3+2))),zl (.slice m.ca m.cn m.cc),zl (.agg (ya u)),zl (zI t),zl (zI (u t)),zl (.bool (decide (u t<A)))] [] (by kernel_rfl) (by kernel_rfl) (by kernel_rfl) ?hg ?hstep ?hfin
     case hg =>
      intro g hg v w h;cases hg
     case hstep =>
      refine zc.cons 1 rfl ?_ ?_
      ·intro T w' j f a;have n:T.getD 0 undef=.slice (zO x y) k s:=f 0;exact zs (by go_simp) rfl
      refine zc.cons 2 rfl ?_ ?_
      ·intro T w' j f a;have n:T.getD 1 undef=.slice ba bn bc:=f 1;exact zs (by go_simp) rfl
      refine zc.cons 3 rfl ?_ ?_
      ·intro T w' j f a;have n:T.getD 10 undef=zI q:=f 10;exact zs (by go_simp) rfl
      refine zc.cons 4 rfl ?_ ?_
      ·intro T w' j f a;have n:T.getD 9 undef=zI t:=f 9;exact zs (by go_simp) rfl
      refine zc.cons 5 rfl ?_ ?_
      ·intro T w' j f a;have n:T.getD 22 undef=_:=a 0 22;have B:T.getD 23 undef=_:=a 1 23;have ag:T.getD 24 undef=_:=a 2 24;have aI:T.getD 25 undef=_:=a 3 25;refine Or.inr ⟨99,#[.slice (zO x y) k s,.slice ba bn bc,zI q,zI t],by go_simp,?_⟩;refine (av.o w' j).mono ?_;rintro e aF ⟨rfl,U⟩;exact ⟨_,rfl,rfl,U⟩
      refine zc.cons 6 rfl ?_ ?_
      ·intro T w' j f a;have n:T.getD 0 undef=.slice (zO x y) k s:=f 0;exact zs (by go_simp) rfl
      refine zc.cons 7 rfl ?_ ?_
      ·intro T w' j f a;have n:T.getD 10 undef=zI q:=f 10;exact zs (by go_simp) rfl
      refine zc.cons 8 rfl ?_ ?_
      ·intro T w' j f a;have n:T.getD 27 undef=_:=a 5 27;have B:T.getD 28 undef=_:=a 6 28;exact zs (by go_simp) rfl
      refine zc.cons 9 rfl ?_ ?_
      ·intro T w' j f a;have n:T.getD 29 undef=_:=a 7 29;exact zs (by go_simp) rfl
      refine zc.cons 10 rfl ?_ ?_
      ·intro T w' j f a;have n:T.getD 30 undef=_:=a 8 30;have ae:=cell_later j ap.o;exact zs (by go_simp) rfl
      refine zc.cons 11 rfl ?_ ?_
      ·intro T w' j f a;have n:T.getD 31 undef=_:=a 9 31;refine Or.inr ⟨71,#[.slice m.ca m.cn m.cc],by go_simp,?_⟩;refine (au.o w' j).mono ?_;rintro e aF ⟨rfl,U⟩;exact ⟨_,rfl,rfl,U⟩
      refine zc.cons 12 rfl ?_ ?_
      ·intro T w' j f a;have n:T.getD 9 undef=zI t:=f 9;exact zs (by go_simp) rfl
      refine zc.cons 13 rfl ?_ ?_
      ·intro T w' j f a;have n:T.getD 32 undef=_:=a 10 32;have B:T.getD 33 undef=_:=a 11 33;have ae:=T8 u (t:Int) (by omega) aB w';rw [Int.toNat_natCast] at ae;exact zs (by go_simp) rfl
      refine zc.cons 14 rfl ?_ ?_
      ·intro T w' j f a;have n:T.getD 26 undef=_:=a 4 26;have B:T.getD 34 undef=_:=a 12 34;exact zs (by go_simp) rfl
      exact trivial
     intro T w' j aC f a;have af:T.getD 35 undef=.bool (decide (u t<A)):=a 13 35;rw [<-aq.o] at af;rw [yb (tt 22 [false,false,false,false,false,false,false,false,false,false,false,false,false,false] 2) (by kernel_rfl) aC @f];obtain ⟨us,an⟩:∃ us:Nat->Value,(fun d=>T.getD d undef)=us:=⟨_,rfl⟩;rw [an];have ax:us 35=.bool (XD l b t q):=(by rw [<-an];exact af);apply_assumption;simp only [xj,tt,List.replicate,List.cons_append,List.nil_append];go_meet;exact ⟨_,rfl,ax,j⟩
    obtain ⟨aQ,rfl,rfl,ah⟩:=hcut;have Z:=zh (za ab.o ah);clear ah;cases E:XD l b t q with
    | true =>
     have J:=zh E;clear E;go_wp2;go_ret3
     exact ⟨t,q,true,rfl,Or.inr ⟨rfl,t,q,rfl,rfl,az,aA,by have:=L.o;omega,J.o,I.o,H.o⟩,Z.o⟩
    | false =>
     have J:=zh E;clear E;go_wp2;go_roundg (k-(q+1))
     case measure=>omega
     refine ⟨q+1,by go_num,by omega,rfl,fun i X=>?_,Z.o⟩;by_cases e:i=q
     ·subst e;exact J.o
     exact I.o i (by omega)
   obtain rfl:k=q:=(by omega);go_wp2;go_roundg (48-(t+1))
   case measure=>omega
   refine ⟨t+1,by go_num,by omega,by omega,rfl,fun z B ag i X=>?_,ab.o⟩;by_cases e:z=t
   ·subst e;exact I.o i (by have:=L.o;omega)
   exact H.o z B (by omega) i X
  obtain rfl:t=48:=by omega
  go_wp2;go_ret3
  exact ⟨0,0,false,rfl,Or.inl ⟨rfl,rfl,rfl,H.o⟩,aa.o⟩
end Go.Proofs.YtckpdfkobdgjeaaGreatDoor
