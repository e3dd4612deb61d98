/- Several texts in one: SeekA, SeekB, SeekC. -/
import Derived.Deep.DeepCutAuto
import Derived.Test.YtckpdfkobdgjeaaGreatDoorHAll23
import Derived.Test.YtckpdfkobdgjeaaGreatDoorHPlaceAll
import Derived.Test.YtckpdfkobdgjeaaGreatDoorHAny
namespace Go.Proofs.YtckpdfkobdgjeaaGreatDoor
set_option maxRecDepth 100000
set_option maxHeartbeats 4000000
open Go.RowKit
def Zv (v:Nat->Int) (u L:Nat) (n:Int) (t:Nat):Bool:=decide (t+L<=u)&&decide (n<=YT v t L)
theorem R6 {v:Nat->Int} {c L t:Nat} {n:Int} (h:0<L):Zv v c L n t=true↔t+L<=c/\∀ s,t<=s->s<t+L->n<=v s:=by
 rw [Zv,Bool.and_eq_true,decide_eq_true_iff,decide_eq_true_iff];obtain ⟨d,s,e,f,g⟩:=Y9 v t L h
 constructor
 ·rintro ⟨a,b⟩;exact ⟨a,fun s i j=>by have:=d s i j;omega⟩
 rintro ⟨a,b⟩;exact ⟨a,by rw [g];exact b s e f⟩
theorem LP (w:World) (v:Nat->Int) (t g L n:Int) (T b S:Nat) (l:t=T) (m:g=b) (k:L=S) (X:T<=200) (Y:b<=48) (V:1<=S) (W:S<=24) :
 zC 159 #[.agg (ya v),zI t,zI g,zI L,zI n] w fun e w'=>e=.returned (.bool (Zv v b S n T))/\Below w.heap.size w w':=by
 obtain ⟨a,p⟩:=qA (Zv v b S n T);rw [p];have j:=zh p;have h:=zh l;have P:=zh m;have y:=zh k;have b1:0<=t:=by omega
 have Q:t<=200:=by omega
 have R:1<=L:=by omega
 have U:L<=24:=by omega
 clear p;by_cases E:T+S<=b
 ·have N:¬g<t+L:=by omega
  clear l m k;go_enter Tryz.func159,Tryz.ntmps159;go_wp2_with fail
  obtain ⟨d,f⟩:=qB (w.alloc (.cells (ya v) 126));rw [<-f];have F:Zh (ZU d w.heap.size v):=by rw [f];exact ZU.new w v
  have A:Zh (zL w d):=by rw [f];exact zr _ _
  clear f;go_loop [11] (fun u=>∃ i:Nat,u=zI i/\T<=i/\i<=T+S/\∀ s,T<=s->s<i->n<=v s) (fun u=>T+S-(intOf u).toNat)
  case atStart=>exact ⟨T,by rw [h.o],Nat.le_refl _,by omega,fun s C H=>by omega⟩
  obtain ⟨i,rfl,C,H,D⟩:=hrel;have z:=zh D;clear D;by_cases J:i<T+S
  ·have M:(i:Int)<t+L:=(by have:=h.o;have:=y.o;omega);have Z:(i:Int)<48:=(by omega);have G:=F.o.cell (i:=i) (by omega);obtain ⟨x,q⟩:=qA (v i);rw [q] at G;have B:=zh q;clear q;by_cases aa:x<n
   ·have c:Zh (false=a):=by
     show false=a;rw [<-j.o];cases I:Zv v b S n T with
     | false=>rfl
     | true =>
      have:=((R6 (by omega)).1 I).2 i C J;rw [B.o] at this;omega
    go_wp2;go_ret;exact ⟨zm c.o,A.o⟩
   go_wp2;go_round
   case rel=>exact ⟨i+1,by go_num,by omega,by omega,fun s r O=>by
    by_cases e:s=i
    ·subst e;rw [B.o];omega
    exact z.o s r (by omega)⟩
   case measure=>simp [intOf];omega
  have M:¬(i:Int)<t+L:=by have:=h.o;have:=y.o;omega
  have c:Zh (true=a):=by
   show true=a;rw [<-j.o,(R6 (by omega)).2 ⟨E,fun s r O=>z.o s r (by omega)⟩]
  go_wp2;go_ret;exact ⟨zm c.o,A.o⟩
 ·have N:g<t+L:=by omega
  have c:Zh (false=a):=by show false=a;rw [<-j.o,Zv,decide_eq_false E,Bool.false_and]
  clear l m k;go_enter Tryz.func159,Tryz.ntmps159;go_wp2;go_ret;exact ⟨zm c.o,zr _ _⟩
def Te (v:Nat->Int) (F U L:Nat) (n:Int):Int×Bool:=match zw (Zv v U L n) F (U-F) with
 | some t=>((t:Int),true)
 | none=>(0,false)
theorem OP (w:World) (v:Nat->Int) (t c L n:Int) (T a S:Nat) (y:t=T) (z:c=a) (x:L=S) (M:T<=200) (N:a<=48) (I:1<=S) (J:S<=24) :
 zC 115 #[.agg (ya v),zI t,zI c,zI L,zI n] w fun e w'=>e=.returned (.tuple #[zI (Te v T a S n).1,.bool (Te v T a S n).2])/\Below w.heap.size w w':=by
 obtain ⟨d,p⟩:=qA (Te v T a S n);rw [p];have r:Zh (∀ k,zw (Zv v a S n) T (a-T)=zw (Zv v a S n) k (a-k)->(a<=k->d=(0,false))/\(k<a->Zv v a S n k=true->d=((k:Int),true))):=by
  intro k O;rw [<-p,Te,O];exact ⟨fun h=>by rw [show a-k=0 from by omega];rfl,fun R m=>by rw [Zn (by omega) m]⟩
 have F:=zh y;have g:=zh z;have E:=zh x;clear p y z x;go_enter Tryz.func115,Tryz.ntmps115;go_wp2_with fail
 obtain ⟨b,f⟩:=qB (w.alloc (.cells (ya v) 126));rw [<-f];have H:Zh (ZU b w.heap.size v):=by rw [f];exact ZU.new w v
 have u:Zh (zL w b):=by rw [f];exact zr _ _
 clear f;go_loopw [12] (fun q wr=>∃ k:Nat,q=zI k/\k<=200/\zw (Zv v a S n) T (a-T)=zw (Zv v a S n) k (a-k)/\zL b wr) (fun q _=>a-(intOf q).toNat)
 case atStart=>exact ⟨T,by rw [F.o],M,rfl,Below.refl _ _⟩
 case round =>
  obtain ⟨k,rfl,m,A,B⟩:=hrel;have i:=zh A;have j:=zh B;clear A B;have G:Zh (ZU wr w.heap.size v):=H.o.later j.o;by_cases P:k<a
  ·have Q:(k:Int)<c:=(by have:=g.o;omega);go_wp2_with (refine wpList_load_row rfl 126 (.tmp 5) rfl w.heap.size rfl 126 (ya v) (0,0) _ G.o Tryz.underlying126 rfl (size61 _) ?_)
   refine (LP wr v k c L n k a S rfl g.o E.o m N I J).mono ?_;rintro e U ⟨rfl,C⟩;have s:=zh (za j.o C);clear C;cases D:Zv v a S n k with
   | true =>
    have l:=zh ((r.o k i.o).2 P D);go_wp2;go_ret2
    exact ⟨by rw [l.o];rfl,za u.o s.o⟩
   | false =>
    go_wp2;go_roundw
    case rel=>exact ⟨k+1,by go_num,by omega,by rw [i.o,wQ (by omega) D];rfl,s.o⟩
    case measure=>simp [intOf];omega
  have Q:¬(k:Int)<c:=by have:=g.o;omega
  have l:=zh ((r.o k i.o).1 (by omega));go_wp2;go_ret2
  exact ⟨by rw [l.o];rfl,za u.o j.o⟩
theorem Qy {o:Oper} {T:Array Value} {df:List Deferred} {w:World} {s g:Nat} {v:Nat->Int} (c:o.op=.load 126 (.tmp s)) (d:T.getD s undef=.pointer (zO g 0)) (hg:ZU w g v) :
 (execOp (Act.eval ⟨T,df⟩) o).run Tryz.prog w=.ok (.value (.agg (ya v))) w:=by
 have b:=run_loadVar_row (P:=Tryz.prog) w g 126 126 (ya v) (0,0) _ hg Tryz.underlying126 rfl (size61 v);have a:Act.eval ⟨T,df⟩ (.tmp s)=.pointer (zO g 0):=d;unfold execOp;simp only [c,a,Instr.loadAt,Instr.sureAddr,Sem.run_bind,Sem.run_pure,Result.andThen_ok,b]
def fits (r:Rq) (f:zd) (fm:Int) (k:Nat):Bool:=Zv (zn f) r.un.toNat (zp r.ps k).toNat (rN r.ps k) fm.toNat
theorem Ln (f:zd) (a L:Nat) (n:Int) (t:Nat):Zv (zn f) a L n t=UV f a L n t:=rfl
theorem NT {r:Rq} (a:z8 false r=0) {f:zd} (i:zW f) {fm:Int} {k:Nat} (b:k<r.ps.length) (e:0<=fm):((yj r f fm k).2.1=true/\(yj r f fm k).1=fm)↔fits r f fm k=true:=by
 rw [fits,Ln,UW a b]
 constructor
 ·rintro ⟨g,o⟩;obtain ⟨_,F,t,j,l,m,d,_⟩:=YX a b g;have:fm.toNat=t:=by omega
  rw [this];exact d
 intro h;obtain ⟨c,n⟩:=Gf a b i e (show fm<=(fm.toNat:Int) by omega) h;obtain ⟨_,F,t,j,l,m,d,_⟩:=YX a b c;exact ⟨c,by omega⟩
theorem I4 {r:Rq} (b:z8 false r=0) {f:zd} (c:zW f) {t fm:Int} {bs:zd} {k:Nat} (d:k<r.ps.length) (a:0<=fm) (h:yr r f t k=some (fm,bs)):yr r f t (k+1)=if fits r f fm k=true then some (fm+zp r.ps k,bs++[((k:Int),fm)]) else none:=by
 rw [yr,h];simp only;by_cases e:fits r f fm k=true
 ·rw [if_pos ((NT b c d a).2 e),if_pos e]
 rw [if_neg (fun q=>e ((NT b c d a).1 q)),if_neg e]
theorem N0 (w:World) (f:zd) (ai:zW f) (r:Rq) (h:zH w r) (z:z8 false r=0) (t:Int) (aG:0<=t) (a4:t<=48) :
 zC 114 #[.agg (ya (zn f)),.agg #[zI r.queue,zI r.fr,zI r.un,zI r.kind,.slice r.pa r.pn r.pc],zI t] w fun e w'=>ZB w w' e (yB (yr r f t r.ps.length)):=by
 obtain ⟨x,F⟩:=qA (yB (yr r f t r.ps.length));rw [F];have aW:=h.capb;have aY:=h.le;have au:=zh h.len;have aE:0<r.pn:=by have:=of_decide_eq_true (zv.1 z).2.1;have:=h.len;omega
 have a0:r.pn<=3:=by have:=of_decide_eq_true (zv.1 z).2.1;have:=h.len;omega
 obtain ⟨m,n,an,ao⟩:=h.cells aE;have L:=zh ao;have av:=zh fun k (ak:k<r.pn)=>yh z (k:=k) (by have:=h.len;omega);have ad:=zh (xA z);have ax:=zh fun (fm:Int) (bs:zd) (k:Nat) (ak:k<r.pn) (j:0<=fm) (U:yr r f t k=some (fm,bs))=>I4 z ai (by have:=h.len;omega) j U;rw [<-au.o] at F;have Y:=zh F;have ar:=zh (NU (r:=r) (f:=f) (t:=t));obtain ⟨aK,aD,aH,aI,aJ⟩:=info_parts Tryz.infoBite;have u:=zh (((Below.refl w.heap.size w).alloc (Nat.le_refl _) (.cells (ya (zn f)) 126)).alloc (by simp) (.cells #[zI r.queue,zI r.fr,zI r.un,zI r.kind,.slice (zO m n) r.pn r.pc] 24));have O:=zh ((ZU.new w (zn f)).alloc (.cells #[zI r.queue,zI r.fr,zI r.un,zI r.kind,.slice (zO m n) r.pn r.pc] 24));have s:=zh (wn (w.alloc (.cells (ya (zn f)) 126)) r);rw [an] at s;rw [an];clear ao h ai z F;go_enter Tryz.func114,Tryz.ntmps114;go_wp2_with fail
 obtain ⟨W0,G⟩:=qA ((w.alloc (.cells (ya (zn f)) 126)).alloc (.cells #[zI r.queue,zI r.fr,zI r.un,zI r.kind,.slice (some ⟨m,n,none⟩) r.pn r.pc] 24));obtain ⟨H,Q⟩:=qA (w.heap.size);obtain ⟨B,P⟩:=qA (w.heap.size+1);have a2:w.heap.size+2<=W0.heap.size:=by rw [<-G];simp
 rw [G] at s O u;rw [World.size_alloc,P] at s;rw [P,Q,G];rw [Q] at O;clear G Q P;go_loopw [2,8,9] (fun aL v W wr=>∃ (k:Nat) (fm:Int) (bs:zd),W=zI k/\k<=r.pn/\aL=zI fm/\0<=fm/\fm<=48+24*k/\yr r f t k=some (fm,bs)/\zP wr W0.heap.size v bs/\zL W0 wr) (fun _ _ W _=>r.pn-(intOf W).toNat)
 case atStart=>exact ⟨0,t,[],rfl,by omega,rfl,aG,by omega,rfl,World.ownsRow_nil _ _ _ _,Below.refl _ _⟩
 case round =>
  obtain ⟨k,fm,bs,rfl,ak,rfl,aC,aX,V,al,R⟩:=hrel;have ae:=zh V;have aa:=zh al;have l:=zh R;have ah:bs.length=k:=Oi V;have J:=zh ah;have a3:W0.heap.size<=wr.heap.size:=R.size;clear V al R ah;obtain ⟨E,c1,c2,c3,c4⟩:=s.o wr l.o;by_cases C:k<r.pn
  ·have aZ:(k:Int)<r.pn:=(by omega);have A:=cell_later (za u.o l.o) (L.o k C).1;have af:=cell_later (za u.o l.o) (L.o k C).2;have a1:=av.o k C;have M:=zh (ax.o fm bs k C aC ae.o);have N:=zh fun X=>LP X (zn f) fm r.un (zp r.ps k) (rN r.ps k) fm.toNat r.un.toNat (zp r.ps k).toNat (by omega) (by have:=ad.o;omega) (by omega) (by omega) (by have:=ad.o;omega) (by omega) (by omega);obtain ⟨p,S⟩:=qA (fits r f fm k);rw [S] at M;rw [show Zv (zn f) r.un.toNat (zp r.ps k).toNat (rN r.ps k) fm.toNat=p from S] at N;clear S;go_wp2_with fail
   go_cut [34] (fun q aN=>q=.bool (!p)/\zL wr aN)
   case first =>
    refine zV ((Tryz.f114.body.bind fun c=>yi c 5).getD #[]) (by kernel_rfl) [zl (.agg (ya (zn f))),zl (zI fm),zl (.pointer (zO B 2)),zl (zI r.un),zl (.pointer (zO B 4)),zl (.slice (zO m n) r.pn r.pc),zl (zI k),zl (.pointer (zO m (n+k*2))),zl (.pointer (zO m (n+k*2))),zl (zI (zp r.ps k)),zl (.pointer (zO B 4)),zl (.slice (zO m n) r.pn r.pc),zl (zI k),zl (.pointer (zO m (n+k*2))),zl (.pointer (zO m (n+k*2+1))),zl (zI (rN r.ps k)),zl (.bool p),zl (.bool (!p))] [] (by kernel_rfl) (by kernel_rfl) (by kernel_rfl) ?hg ?hstep ?hfin
    case hg =>
     intro g hg v w h;cases hg
    case hstep =>
     refine zc.cons 1 rfl ?_ ?_
     ·intro T w' i b a;have j:T.getD 3 undef=.pointer (zO H 0):=b 3;exact Or.inl ⟨.agg (ya (zn f)),w',Qy rfl j (O.o.later (za l.o i)),rfl,Below.refl _ _⟩
     refine zc.cons 2 rfl ?_ ?_
     ·intro T w' i b a;have j:T.getD 2 undef=zI fm:=b 2;exact zs (by go_simp) rfl
     refine zc.cons 3 rfl ?_ ?_
     ·intro T w' i b a;have j:T.getD 4 undef=.pointer (zO B 0):=b 4;exact zs (by go_simp) rfl
     refine zc.cons 4 rfl ?_ ?_
     ·intro T w' i b a;have j:T.getD 19 undef=_:=a 2 19;obtain ⟨E,c1,c2,c3,c4⟩:=s.o w' (za l.o i);exact zs (by go_simp) rfl
     refine zc.cons 5 rfl ?_ ?_
     ·intro T w' i b a;have j:T.getD 4 undef=.pointer (zO B 0):=b 4;exact zs (by go_simp) rfl
     refine zc.cons 6 rfl ?_ ?_
     ·intro T w' i b a;have j:T.getD 21 undef=_:=a 4 21;obtain ⟨E,c1,c2,c3,c4⟩:=s.o w' (za l.o i);exact zs (by go_simp) rfl
     refine zc.cons 7 rfl ?_ ?_
     ·intro T w' i b a;have j:T.getD 9 undef=zI k:=b 9;exact zs (by go_simp) rfl
     refine zc.cons 8 rfl ?_ ?_
     ·intro T w' i b a;have j:T.getD 22 undef=_:=a 5 22;have ag:T.getD 23 undef=_:=a 6 23;exact zs (by go_simp) rfl
     refine zc.cons 9 rfl ?_ ?_
     ·intro T w' i b a;have j:T.getD 24 undef=_:=a 7 24;exact zs (by go_simp) rfl
     refine zc.cons 10 rfl ?_ ?_
     ·intro T w' i b a;have j:T.getD 25 undef=_:=a 8 25;have dd:=cell_later i A;exact zs (by go_simp) rfl
     refine zc.cons 11 rfl ?_ ?_
     ·intro T w' i b a;have j:T.getD 4 undef=.pointer (zO B 0):=b 4;exact zs (by go_simp) rfl
     refine zc.cons 12 rfl ?_ ?_
     ·intro T w' i b a;have j:T.getD 27 undef=_:=a 10 27;obtain ⟨E,c1,c2,c3,c4⟩:=s.o w' (za l.o i);exact zs (by go_simp) rfl
     refine zc.cons 13 rfl ?_ ?_
     ·intro T w' i b a;have j:T.getD 9 undef=zI k:=b 9;exact zs (by go_simp) rfl
     refine zc.cons 14 rfl ?_ ?_
     ·intro T w' i b a;have j:T.getD 28 undef=_:=a 11 28;have ag:T.getD 29 undef=_:=a 12 29;exact zs (by go_simp) rfl
     refine zc.cons 15 rfl ?_ ?_
     ·intro T w' i b a;have j:T.getD 30 undef=_:=a 13 30;exact zs (by go_simp) rfl
     refine zc.cons 16 rfl ?_ ?_
     ·intro T w' i b a;have j:T.getD 31 undef=_:=a 14 31;have dd:=cell_later i af;exact zs (by go_simp) rfl
     refine zc.cons 17 rfl ?_ ?_
     ·intro T w' i b a;have j:T.getD 17 undef=_:=a 0 17;have ag:T.getD 18 undef=_:=a 1 18;have aT:T.getD 20 undef=_:=a 3 20;have aU:T.getD 26 undef=_:=a 9 26;have aV:T.getD 32 undef=_:=a 15 32;refine Or.inr ⟨159,#[.agg (ya (zn f)),zI fm,zI r.un,zI (zp r.ps k),zI (rN r.ps k)],by go_simp,?_⟩;refine (N.o w').mono ?_;rintro e a6 ⟨rfl,aB⟩;exact ⟨_,rfl,rfl,aB⟩
     refine zc.cons 18 rfl ?_ ?_
     ·intro T w' i b a;have j:T.getD 33 undef=_:=a 16 33;exact zs (by go_simp) rfl
     exact trivial
    intro T w' i U b a;have ay:T.getD 34 undef=.bool (!p):=a 17 34;rw [yb (tt 17 [false,false,false,false,false,false,false,false,false,false,false,false,false,false,false,false,false,false] 15) (by kernel_rfl) U @b];obtain ⟨us,ap⟩:∃ us:Nat->Value,(fun d=>T.getD d undef)=us:=⟨_,rfl⟩;rw [ap];have az:us 34=.bool (!p):=(by rw [<-ap];exact ay);apply_assumption;simp only [xj,tt,List.replicate,List.cons_append,List.nil_append];go_meet;exact ⟨az,i⟩
   obtain ⟨rfl,y⟩:=hcut;have Z:=zh (za l.o y);have ab:=zh (aa.o.keep y)
   replace c4:=cell_later y c4
   replace A:=cell_later y A
   have aF:W0.heap.size<=wc.heap.size:=(by have:=y.size;omega);have aO:=zh c4;have aP:=zh A;clear y E c1 c2 c3 af N c4 A;cases p with
   | false =>
    have I:Zh (([],false)=x):=(by show ([],false)=x;rw [<-Y.o,XC ar.o M.o (by omega)];rfl);go_wp2;go_ret2
    rw [<-I.o];exact ws (za u.o Z.o)
   | true =>
    have aw:Zh (yr r f t (k+1)=some (fm+zp r.ps k,bs++[((k:Int),fm)])):=M.o;have aq:True:=trivial;go_wp2_with (at_builtin;have _t:=aq;refine wpList_append_own _ rfl _ _ 58 rfl W0.heap.size 62 aK (.agg #[zI 0,zI 0]) 2 16 Tryz.underlying58 aD aH aI aJ rfl (by decide) _ _ _ rfl (ab.o.alloc _) (zA wc.heap.size 0) 1 1 [zI k,zI fm] rfl rfl ?c1 ?c2 ?c3 ?c4 ?c5 ?_;clear aq)
    case c2=>exact ⟨rfl,rfl⟩
    case c3=>have:=J.o;simp only [maxLen];omega
    case c4=>have:=J.o;omega
    case c5=>omega
    intro a5 aM am aj _;have D:=zh (Xi Z.o aF ab.o am aj);clear am aj;obtain ⟨_,_,_,_,aS⟩:=s.o aM D.o.2.1;have dd:=cell_later (za u.o D.o.2.1) (L.o k C).1;go_wp2;go_roundw
    case rel=>exact ⟨k+1,fm+zp r.ps k,bs++[((k:Int),fm)],by go_num,by omega,rfl,by omega,by omega,aw.o,D.o.1,D.o.2.1⟩
    case measure=>simp [intOf];omega
  obtain rfl:k=r.pn:=by omega
  have I:Zh ((bs,true)=x):=by show (bs,true)=x;rw [<-Y.o,ae.o];rfl
  obtain ⟨aQ,aR,rfl,aA⟩:=zP.parts aa.o (by have:=J.o;omega);go_wp2;go_ret2
  rw [<-I.o];exact ⟨_,_,_,rfl,aA.mono u.o.size,za u.o l.o⟩
theorem Gd {r:Rq} (b:z8 false r=0) {g:zd} (hg:zW g) {fm:Int} {k:Nat} (c:k<r.ps.length) (d:0<=fm):Te (zn g) fm.toNat r.un.toNat (zp r.ps k).toNat (rN r.ps k)=((yj r g fm k).1,(yj r g fm k).2.1):=by
 have f:=yh b c;have h:=xA b;unfold yj yp Te;rw [if_pos (zX.2 hg)];by_cases e:fm<r.un
 ·have a:(Xw fm r.un&&yW (zp r.ps k) 1 24)=true:=by
   rw [Bool.and_eq_true]
   constructor
   ·simp [Xw];omega
   ·simp [yW];omega
  rw [if_pos a];show (match WR g fm.toNat r.un.toNat (zp r.ps k).toNat (rN r.ps k) with | some t=>((t:Int),true) | none=>(0,false))=_;cases WR g fm.toNat r.un.toNat (zp r.ps k).toNat (rN r.ps k) <;> rfl
 have a:(Xw fm r.un&&yW (zp r.ps k) 1 24)=false:=by
  rw [Bool.eq_false_iff];simp [Xw];omega
 rw [a,if_neg (by decide),show r.un.toNat-fm.toNat=0 from by omega];rfl
theorem VA (w:World) {r:Rq} (a:z8 false r=0) {g:zd} (hg:zW g) {fm:Int} {k:Nat} (c:k<r.ps.length) (d:0<=fm) (f:fm<=200) :
 zC 115 #[.agg (ya (zn g)),zI fm,zI r.un,zI (zp r.ps k),zI (rN r.ps k)] w fun e w'=>e=.returned (.tuple #[zI (yj r g fm k).1,.bool (yj r g fm k).2.1])/\Below w.heap.size w w':=by
 have h:=yh a c;have i:=xA a;have b:=OP w (zn g) fm r.un (zp r.ps k) (rN r.ps k) fm.toNat r.un.toNat (zp r.ps k).toNat (by omega) (by omega) (by omega) (by omega) (by omega) (by omega) (by omega);rw [Gd a hg c d] at b;exact b
theorem KY (w:World) (f:zd) (W:zW f) (r:Rq) (h:zH w r) (d:z8 false r=0) (Z:r.kind=4) :
 zC 70 #[.agg (ya (zn f)),.agg #[zI r.queue,zI r.fr,zI r.un,zI r.kind,.slice r.pa r.pn r.pc]] w fun e w'=>ZB w w' e (Yu r f):=by
 obtain ⟨i,D⟩:=qA (Yu r f);rw [D];have U:=zh fun X (al:zL w X) t ar au=>N0 X f W r (h.later al) d t ar au;have aC:=h.capb;have aH:=h.le;have az:=zh h.len;have aq:0<r.pn:=by have:=of_decide_eq_true (zv.1 d).2.1;have:=h.len;omega
 have aJ:r.pn<=3:=by have:=of_decide_eq_true (zv.1 d).2.1;have:=h.len;omega
 obtain ⟨L,M,J,aa⟩:=h.cells aq;have ad:=zh aa;have ae:=zh fun k (am:k<r.pn)=>yh d (k:=k) (by have:=h.len;omega);have A:=zh (xA d);have ag:=zh fun (X:World) (g:zd) (hg:zW g) (fm:Int) (k:Nat) (am:k<r.pn) (aj:0<=fm) (ak:fm<=200)=>VA X d hg (k:=k) (by have:=h.len;omega) aj ak;obtain ⟨aO,aD,aL,aM,aN⟩:=info_parts Tryz.infoBite;have l:=zh (((Below.refl w.heap.size w).alloc (Nat.le_refl _) (.cells (ya (zn f)) 126)).alloc (by simp) (.cells #[zI r.queue,zI r.fr,zI r.un,zI r.kind,.slice (zO L M) r.pn r.pc] 24));have C:=zh ((ZU.new w (zn f)).alloc (.cells #[zI r.queue,zI r.fr,zI r.un,zI r.kind,.slice (zO L M) r.pn r.pc] 24));have m:=zh (wn (w.alloc (.cells (ya (zn f)) 126)) r);rw [J] at m;rw [J];rw [J] at U;have aG:(r.kind==4)=true:=by simp [Z]
 have O:=zh D;obtain ⟨F,G⟩:∃ F:Nat,r.fr=F:=⟨r.fr.toNat,by have:=A.o;omega⟩;obtain ⟨a,I⟩:∃ a:Nat,r.un=a:=⟨r.un.toNat,by have:=A.o;omega⟩;have ab:=zh G;have S:=zh I;have P:Zh (F<a/\a<=48):=by have:=A.o;exact ⟨by omega,by omega⟩
 have Q:Zh (Yu r f=match zw (fun t=>(yr r f t r.ps.length).isSome) F (a-F) with | some t=>yB (yr r f t r.ps.length) | none=>([],false)):=by
  show Yu r f=_;rw [Yu,G,I,Int.toNat_natCast,Int.toNat_natCast];rfl
 clear G I aa h W d D Z ag ad ae;go_enter Tryz.func70,Tryz.ntmps70;go_wp2_with fail
 obtain ⟨W0,u⟩:=qA ((w.alloc (.cells (ya (zn f)) 126)).alloc (.cells #[zI r.queue,zI r.fr,zI r.un,zI r.kind,.slice (some ⟨L,M,none⟩) r.pn r.pc] 24));obtain ⟨b,H⟩:=qA (w.heap.size);obtain ⟨B,E⟩:=qA (w.heap.size+1);have aK:w.heap.size+2<=W0.heap.size:=by rw [<-u];simp
 rw [u] at m C l;rw [World.size_alloc,E] at m;rw [E,H,u];rw [H] at C;have aB:b<W0.heap.size:=by omega
 have aA:B<W0.heap.size:=by omega
 have ay:=zh (show w.heap.size<=b/\w.heap.size<=B/\B≠b from by omega);clear u H E;obtain ⟨q,c1,c2,c3,c4⟩:=m.o W0 (Below.refl _ _);go_wp2_with fail
 go_loopw [6] (fun N wr=>∃ k:Nat,N=zI k/\F<=k/\k<=a/\zw (fun t=>(yr r f t r.ps.length).isSome) F (a-F)=zw (fun t=>(yr r f t r.ps.length).isSome) k (a-k)/\zL W0 wr) (fun N _=>a-(intOf N).toNat)
 case atStart=>exact ⟨F,by rw [ab.o],Nat.le_refl _,by have:=P.o;omega,rfl,Below.refl _ _⟩
 case round =>
  clear q c1 c2 c3 c4;obtain ⟨k,rfl,aE,aF,Y,V⟩:=hrel;have y:=zh Y;have c:=zh V;clear Y V;have R:Zh (ZU wr b (zn f)):=C.o.later c.o;obtain ⟨q,c1,c2,c3,c4⟩:=m.o wr c.o;by_cases aI:k<a
  ·have ao:(k:Int)<r.un:=(by have:=S.o;omega);have an:(k:Int)<=48:=(by have:=P.o;omega);have j:=U.o wr (za l.o c.o) k (by omega) an;cases p:yr r f k r.ps.length with
   | none =>
    rw [p] at j;have z:=zh j;clear j;go_wp2_with (refine wpList_load_row rfl 126 (.tmp 2) rfl b rfl 126 (ya (zn f)) (0,0) _ R.o Tryz.underlying126 rfl (size61 _) ?_)
    refine z.o.mono ?_;rintro e ax ⟨ah,aw,ai,rfl,s,n⟩;have x:=zh (za c.o n);clear n q c1 c2 c3 c4 s;have ap:(yB (none:Option (Int×zd))).2=false:=rfl;rw [ap];go_wp2;go_roundw
    case rel=>exact ⟨k+1,by go_num,by omega,by omega,by rw [y.o,wQ (by omega) (by show (yr r f k r.ps.length).isSome=false;rw [p];rfl)];rfl,x.o⟩
    case measure=>simp [intOf];omega
   | some X =>
    have v:Zh (yB (some X)=i):=by
     show yB (some X)=i;rw [<-O.o,Q.o,y.o,Zn (by omega) (by show (yr r f k r.ps.length).isSome=true;rw [p];rfl)];simp only [p]
    rw [p] at j;have z:=zh j;clear j;go_wp2_with (refine wpList_load_row rfl 126 (.tmp 2) rfl b rfl 126 (ya (zn f)) (0,0) _ R.o Tryz.underlying126 rfl (size61 _) ?_)
    refine z.o.mono ?_;rintro e ax ⟨ah,aw,ai,rfl,s,n⟩;have x:=zh (za c.o n);have af:=zh s;clear n q c1 c2 c3 c4 s;have av:(yB (some X)).2=true:=rfl;rw [av];go_wp2;go_ret2
    rw [<-v.o];exact ⟨_,_,_,rfl,af.o.mono (za l.o c.o).size,za l.o x.o⟩
  obtain rfl:k=a:=by omega
  have ao:¬(k:Int)<r.un:=by have:=S.o;omega
  have v:Zh (([],false)=i):=by
   show ([],false)=i;rw [<-O.o,Q.o,y.o,Nat.sub_self];rfl
  go_wp2;go_ret2
  rw [<-v.o];exact ws (za l.o c.o)
theorem KJ (w:World) (f:zd) (aC:zW f) (r:Rq) (h:zH w r) (q:z8 false r=0) (t:r.kind=3) :
 zC 70 #[.agg (ya (zn f)),.agg #[zI r.queue,zI r.fr,zI r.un,zI r.kind,.slice r.pa r.pn r.pc]] w fun e w'=>ZB w w' e (yB (ye r f r.ps.length)):=by
 obtain ⟨i,C⟩:=qA (yB (ye r f r.ps.length));rw [C];have bd:=h.capb;have bm:=h.le;have aP:=zh h.len;have aI:0<r.pn:=by have:=of_decide_eq_true (zv.1 q).2.1;have:=h.len;omega
 have bo:r.pn<=3:=by have:=of_decide_eq_true (zv.1 q).2.1;have:=h.len;omega
 obtain ⟨J,al,aG,aH⟩:=h.cells aI;have U:=zh aH;have aQ:=zh fun k (aD:k<r.pn)=>yh q (k:=k) (by have:=h.len;omega);have u:=zh (xA q);have aS:=zh fun (X:World) (g:zd) (hg:zW g) (fm:Int) (k:Nat) (aD:k<r.pn) (aT:0<=fm) (aU:fm<=200)=>VA X q hg (k:=k) (by have:=h.len;omega) aT aU;obtain ⟨a3,aX,a0,a1,a2⟩:=info_parts Tryz.infoBite;have j:=zh (((Below.refl w.heap.size w).alloc (Nat.le_refl _) (.cells (ya (zn f)) 126)).alloc (by simp) (.cells #[zI r.queue,zI r.fr,zI r.un,zI r.kind,.slice (zO J al) r.pn r.pc] 24));have aa:=zh ((ZU.new w (zn f)).alloc (.cells #[zI r.queue,zI r.fr,zI r.un,zI r.kind,.slice (zO J al) r.pn r.pc] 24));have c:=zh (wn (w.alloc (.cells (ya (zn f)) 126)) r);rw [aG] at c;rw [aG];have bl:(r.kind==4)=false:=by simp [t]
 have bg:(r.kind==1)=false:=by simp [t]
 have bh:(r.kind==2)=false:=by simp [t]
 have bi:(r.kind != 2)=true:=by simp [t]
 have bj:(r.kind==3)=true:=by simp [t]
 rw [<-aP.o] at C;have ao:=zh C;have aO:=zh (RH (r:=r) (f:=f));have aM:=zh aC;clear aH h aC q C t;go_enter Tryz.func70,Tryz.ntmps70;go_wp2_with fail
 obtain ⟨W0,F⟩:=qA ((w.alloc (.cells (ya (zn f)) 126)).alloc (.cells #[zI r.queue,zI r.fr,zI r.un,zI r.kind,.slice (some ⟨J,al,none⟩) r.pn r.pc] 24));obtain ⟨b,af⟩:=qA (w.heap.size);obtain ⟨B,ae⟩:=qA (w.heap.size+1);have bq:w.heap.size+2<=W0.heap.size:=by rw [<-F];simp
 rw [F] at c aa j;rw [World.size_alloc,ae] at c;rw [ae,af,F];rw [af] at aa;have bb:b<W0.heap.size:=by omega
 have a9:B<W0.heap.size:=by omega
 have a5:=zh (show w.heap.size<=b/\w.heap.size<=B/\B≠b from by omega);clear F af ae;obtain ⟨n,c1,c2,c3,c4⟩:=c.o W0 (Below.refl _ _);go_wp2_with fail
 go_loopw [9,10,11] (fun v a4 am wr=>∃ (k:Nat) (fm:Int) (bs:zd),am=zI k/\k<=r.pn/\a4=zI fm/\0<=fm/\fm<=72/\ye r f k=some (fm,bs)/\zP wr W0.heap.size v bs/\zL W0 wr) (fun _ _ am _=>r.pn-(intOf am).toNat)
 case atStart=>exact ⟨0,r.fr,[],rfl,by omega,rfl,by have:=u.o;omega,by have:=u.o;omega,rfl,World.ownsRow_nil _ _ _ _,Below.refl _ _⟩
 case round =>
  clear n c1 c2 c3 c4;obtain ⟨k,fm,bs,rfl,aD,rfl,be,bf,ak,aE,ai⟩:=hrel;have W:=zh ak;have S:=zh aE;have l:=zh ai;have aB:bs.length=k:=Tm ak;have Q:=zh aB;have br:W0.heap.size<=wr.heap.size:=ai.size;have bc:b<wr.heap.size:=by omega
  have ba:B<wr.heap.size:=by omega
  have bp:J<wr.heap.size:=Nat.lt_of_lt_of_le (block_lt_of_cell (U.o 0 aI).1) (by omega);clear ak aE ai aB;have aR:Zh (ZU wr b (zn f)):=aa.o.later l.o;obtain ⟨n,c1,c2,c3,c4⟩:=c.o wr l.o;by_cases I:k<r.pn
  ·have bn:(k:Int)<r.pn:=(by omega);have ay:=cell_later (za j.o l.o) (U.o k I).1;have az:=cell_later (za j.o l.o) (U.o k I).2;have aY:=aQ.o k I;obtain ⟨m,p⟩:=qB (wr.alloc (.cells #[zI (zp r.ps k),zI (rN r.ps k)] 64));have Y:Zh (ZU (wr.alloc (.cells #[zI (zp r.ps k),zI (rN r.ps k)] 64)) b (zn f)):=aR.o.alloc _;have an:zL wr m:=(by rw [p];exact zr _ _);have A:=aS.o m f aM.o fm k I (by have:=u.o;omega) (by have:=u.o;omega);have aA:=Wi r f fm k;obtain ⟨X,ah⟩:=qA (yj r f fm k);rw [ah] at A aA;have ax:=zh ah;obtain ⟨L,D⟩:=qA (zp r.ps k);obtain ⟨M,E⟩:=qA (rN r.ps k);have aN:=zh D;have a6:=zh E;rw [D,E] at aY A p Y;rw [D] at ay;rw [E] at az;have ab:m.cell? (zA wr.heap.size 0)=some (zI L):=(by rw [p];go_simp);have ad:m.cell? (zA wr.heap.size 1)=some (zI M):=(by rw [p];go_simp);have aq:=zh ab;have au:=zh ad;have aw:=zh p;have R:=zh A;have ap:=zh an;clear ah D E ab ad p A an;obtain ⟨x,y,z⟩:=X;simp only at R aA;go_wp2_with (refine wpList_load_row rfl 126 (.tmp 2) rfl b rfl 126 (ya (zn f)) (0,0) _ Y.o Tryz.underlying126 rfl (size61 _) ?_)
   rw [<-aw.o];refine R.o.mono ?_;rintro e d ⟨rfl,G⟩;have H:=za ap.o G;have aK:=zh H;have ar:=zh (cell_later G aq.o);have aL:=zh (cell_later G au.o);have av:=zh (S.o.keep H);have aZ:W0.heap.size<=d.heap.size:=(by have:=H.size;omega);have aW:wr.heap.size<d.heap.size:=block_lt_of_cell ar.o;clear G H n c1 c2 c3 c4 ay az aw R ap aq au Y;have P:=zh (za l.o aK.o);obtain ⟨n,c1,c2,c3,c4⟩:=c.o d P.o;cases y with
   | false =>
    have V:Zh (ye r f (k+1)=none):=(by show ye r f (k+1)=none;rw [ye,W.o];simp only [ax.o];rfl);have O:Zh (([],false)=i):=(by show ([],false)=i;rw [<-ao.o,XC aO.o V.o (by omega)];rfl);go_wp2;go_ret2
    rw [<-O.o];exact ws (za j.o P.o)
   | true =>
    have V:Zh (ye r f (k+1)=some (x+L,bs++[((k:Int),x)])):=(by show ye r f (k+1)=_;rw [ye,W.o];simp only [ax.o,aN.o];rfl);have aJ:True:=trivial;go_wp2_with (at_builtin;have _t:=aJ;refine wpList_append_own _ rfl _ _ 58 rfl W0.heap.size 62 a3 (.agg #[zI 0,zI 0]) 2 16 Tryz.underlying58 aX a0 a1 a2 rfl (by decide) _ _ _ rfl (av.o.alloc _) (zA d.heap.size 0) 1 1 [zI k,zI x] rfl rfl ?c1 ?c2 ?c3 ?c4 ?c5 ?_;clear aJ)
    case c1=>exact XG _ _ _ _
    case c2=>exact XH _ _
    case c3=>have:=Q.o;simp only [maxLen];omega
    case c4=>have:=Q.o;omega
    case c5=>simp;omega
    intro bt N aF aj _;have Z:=zh (Xi P.o aZ av.o aF aj);have ag:N.heap[wr.heap.size]?=d.heap[wr.heap.size]?:=(aj.block wr.heap.size (by simp;omega) (fun e=>by have:=(S.o.lt _ e.symm).2;omega)).trans (Below.heap_alloc _ _ _ aW);have ab:N.cell? (zA wr.heap.size 0)=some (zI L):=(World.cell?_of_block (w:=d) (a:=(zA wr.heap.size 0)) ag).trans ar.o;have ad:N.cell? (zA wr.heap.size 1)=some (zI M):=(World.cell?_of_block (w:=d) (a:=(zA wr.heap.size 1)) ag).trans aL.o;clear aF aj ag n c1 c2 c3 c4;obtain ⟨n,c1,c2,c3,c4⟩:=c.o N Z.o.2.1;go_wp2_with fail
    go_loop [15] (fun s=>s=zI x) (fun _=>0)
    case atStart=>rfl
    subst hrel;go_wp2_with fail
    go_roundw
    case rel=>exact ⟨k+1,x+L,bs++[((k:Int),x)],by go_num,by omega,rfl,by omega,by omega,V.o,Z.o.1,Z.o.2.1⟩
    case measure=>simp [intOf];omega
  obtain rfl:k=r.pn:=by omega
  have O:Zh ((bs,true)=i):=by show (bs,true)=i;rw [<-ao.o,W.o];rfl
  obtain ⟨a7,a8,rfl,aV⟩:=zP.parts S.o (by have:=Q.o;omega);go_wp2_with fail
  go_quiet (fail)
  go_wp2;go_ret2
  rw [<-O.o];exact ⟨_,_,_,rfl,(aV.later (_root_.Go.below_drewN (Below.refl _ _) _)).mono j.o.size,_root_.Go.below_drewN (za j.o l.o) _⟩
end Go.Proofs.YtckpdfkobdgjeaaGreatDoor
