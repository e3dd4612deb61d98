/- Several texts in one: SeekB, SeekC, SeekD. -/
import Derived.Test.YtckpdfkobdgjeaaGreatDoorJAll23
import Derived.Test.YtckpdfkobdgjeaaGreatDoorJAny
import Derived.Deep.DeepCutAuto
namespace Go.Proofs.YtckpdfkobdgjeaaGreatDoor
set_option maxRecDepth 100000
set_option maxHeartbeats 4000000
open Go.RowKit
set_option linter.unusedSectionVars false
variable [Inhabited Mk]
theorem Qy {o:Oper} {T:Array Value} {df:List Deferred} {w:World} {s g:Nat} {v:Nat->Int} (c:o.op=.load 126 (.tmp s)) (d:T.getD s undef=.pointer (zO g 0)) (hg:ZU w g v) :
 (execOp (Act.eval ⟨T,df⟩) o).run Tryz.prog w=.ok (.value (.agg (ya v))) w:=by
 have b:=run_loadVar_row (P:=Tryz.prog) w g 126 126 (ya v) (0,0) _ hg Tryz.underlying126 rfl (size61 v);have a:Act.eval ⟨T,df⟩ (.tmp s)=.pointer (zO g 0):=d;unfold execOp;simp only [c,a,Instr.loadAt,Instr.sureAddr,Sem.run_bind,Sem.run_pure,Result.andThen_ok,b]
def fits (r:Rq) (f:zd) (fm:Int) (k:Nat):Bool:=Zv (zn f) r.un.toNat (zp r.ps k).toNat (rN r.ps k) fm.toNat
theorem Ln (f:zd) (u L:Nat) (n:Int) (t:Nat):Zv (zn f) u L n t=UV f u L n t:=rfl
theorem NT {r:Rq} (a:z8 false r=0) {f:zd} (i:zW f) {fm:Int} {k:Nat} (b:k<r.ps.length) (e:0<=fm):((yj r f fm k).2.1=true/\(yj r f fm k).1=fm)↔fits r f fm k=true:=by
 rw [fits,Ln,UW a b]
 constructor
 ·rintro ⟨g,o⟩;obtain ⟨_,F,t,j,l,m,d,_⟩:=YX a b g;have:fm.toNat=t:=by omega
  rw [this];exact d
 intro h;obtain ⟨c,n⟩:=Gf a b i e (show fm<=(fm.toNat:Int) by omega) h;obtain ⟨_,F,t,j,l,m,d,_⟩:=YX a b c;exact ⟨c,by omega⟩
theorem I4 {r:Rq} (b:z8 false r=0) {f:zd} (c:zW f) {t fm:Int} {bs:zd} {k:Nat} (d:k<r.ps.length) (a:0<=fm) (h:yr r f t k=some (fm,bs)):yr r f t (k+1)=if fits r f fm k=true then some (fm+zp r.ps k,bs++[((k:Int),fm)]) else none:=by
 rw [yr,h];simp only;by_cases e:fits r f fm k=true
 ·rw [if_pos ((NT b c d a).2 e),if_pos e]
 rw [if_neg (fun q=>e ((NT b c d a).1 q)),if_neg e]
theorem N0 (w:World) (f:zd) (ai:zW f) (r:Rq) (h:zH w r) (z:z8 false r=0) (t:Int) (aG:0<=t) (a4:t<=48) :
 zC 114 #[.agg (ya (zn f)),.agg #[zI r.queue,zI r.fr,zI r.un,zI r.kind,.slice r.pa r.pn r.pc],zI t] w fun e w'=>ZB w w' e (yB (yr r f t r.ps.length)):=by
 obtain ⟨x,F⟩:=qA (yB (yr r f t r.ps.length));rw [F];have aW:=h.capb;have aY:=h.le;have au:=zh h.len;have aE:0<r.pn:=by have:=of_decide_eq_true (zv.1 z).2.1;have:=h.len;omega
 have a0:r.pn<=3:=by have:=of_decide_eq_true (zv.1 z).2.1;have:=h.len;omega
 obtain ⟨m,n,an,ao⟩:=h.cells aE;have L:=zh ao;have av:=zh fun k (ak:k<r.pn)=>yh z (k:=k) (by have:=h.len;omega);have ad:=zh (xA z);have ax:=zh fun (fm:Int) (bs:zd) (k:Nat) (ak:k<r.pn) (j:0<=fm) (U:yr r f t k=some (fm,bs))=>I4 z ai (by have:=h.len;omega) j U;rw [<-au.o] at F;have Y:=zh F;have ar:=zh (NU (r:=r) (f:=f) (t:=t));obtain ⟨aK,aD,aH,aI,aJ⟩:=info_parts Tryz.infoBite;have u:=zh (((Below.refl w.heap.size w).alloc (Nat.le_refl _) (.cells (ya (zn f)) 126)).alloc (by simp) (.cells #[zI r.queue,zI r.fr,zI r.un,zI r.kind,.slice (zO m n) r.pn r.pc] 24));have O:=zh ((ZU.new w (zn f)).alloc (.cells #[zI r.queue,zI r.fr,zI r.un,zI r.kind,.slice (zO m n) r.pn r.pc] 24));have s:=zh (wn (w.alloc (.cells (ya (zn f)) 126)) r);rw [an] at s;rw [an];clear ao h ai z F;go_enter Tryz.func114,Tryz.ntmps114;go_wp2_with fail
 obtain ⟨W0,G⟩:=qA ((w.alloc (.cells (ya (zn f)) 126)).alloc (.cells #[zI r.queue,zI r.fr,zI r.un,zI r.kind,.slice (some ⟨m,n,none⟩) r.pn r.pc] 24));obtain ⟨H,Q⟩:=qA (w.heap.size);obtain ⟨B,P⟩:=qA (w.heap.size+1);have a2:w.heap.size+2<=W0.heap.size:=by rw [<-G];simp
 rw [G] at s O u;rw [World.size_alloc,P] at s;rw [P,Q,G];rw [Q] at O;clear G Q P;go_loopw [2,8,9] (fun aL v W wr=>∃ (k:Nat) (fm:Int) (bs:zd),W=zI k/\k<=r.pn/\aL=zI fm/\0<=fm/\fm<=48+24*k/\yr r f t k=some (fm,bs)/\zP wr W0.heap.size v bs/\zL W0 wr) (fun _ _ W _=>r.pn-(intOf W).toNat)
 case atStart=>exact ⟨0,t,[],rfl,by omega,rfl,aG,by omega,rfl,World.ownsRow_nil _ _ _ _,Below.refl _ _⟩
 case round =>
  obtain ⟨k,fm,bs,rfl,ak,rfl,aC,aX,V,al,R⟩:=hrel;have ae:=zh V;have aa:=zh al;have l:=zh R;have ah:bs.length=k:=Oi V;have J:=zh ah;have a3:W0.heap.size<=wr.heap.size:=R.size;clear V al R ah;obtain ⟨E,c1,c2,c3,c4⟩:=s.o wr l.o;by_cases C:k<r.pn
  ·have aZ:(k:Int)<r.pn:=(by omega);have A:=cell_later (za u.o l.o) (L.o k C).1;have af:=cell_later (za u.o l.o) (L.o k C).2;have a1:=av.o k C;have M:=zh (ax.o fm bs k C aC ae.o);have N:=zh fun X=>LP X (zn f) fm r.un (zp r.ps k) (rN r.ps k) fm.toNat r.un.toNat (zp r.ps k).toNat (by omega) (by have:=ad.o;omega) (by omega) (by omega) (by have:=ad.o;omega) (by omega) (by omega);obtain ⟨p,S⟩:=qA (fits r f fm k);rw [S] at M;rw [show Zv (zn f) r.un.toNat (zp r.ps k).toNat (rN r.ps k) fm.toNat=p from S] at N;clear S;go_wp2_with fail
   go_cut [34] (fun q aN=>q=.bool (!p)/\zL wr aN)
   case first =>
    refine zV ((Tryz.f114.body.bind fun c=>yi c 5).getD #[]) (by kernel_rfl) [zl (.agg (ya (zn f))),zl (zI fm),zl (.pointer (zO B 2)),zl (zI r.un),zl (.pointer (zO B 4)),zl (.slice (zO m n) r.pn r.pc),zl (zI k),zl (.pointer (zO m (n+k*2))),zl (.pointer (zO m (n+k*2))),zl (zI (zp r.ps k)),zl (.pointer (zO B 4)),zl (.slice (zO m n) r.pn r.pc),zl (zI k),zl (.pointer (zO m (n+k*2))),zl (.pointer (zO m (n+k*2+1))),zl (zI (rN r.ps k)),zl (.bool p),zl (.bool (!p))] [] (by kernel_rfl) (by kernel_rfl) (by kernel_rfl) ?hg ?hstep ?hfin
    case hg =>
     intro g hg v w h;cases hg
    case hstep =>
     refine zc.cons 1 rfl ?_ ?_
     ·intro T w' i b a;have j:T.getD 3 undef=.pointer (zO H 0):=b 3;exact Or.inl ⟨.agg (ya (zn f)),w',Qy rfl j (O.o.later (za l.o i)),rfl,Below.refl _ _⟩
     refine zc.cons 2 rfl ?_ ?_
     ·intro T w' i b a;have j:T.getD 2 undef=zI fm:=b 2;exact zs (by go_simp) rfl
     refine zc.cons 3 rfl ?_ ?_
     ·intro T w' i b a;have j:T.getD 4 undef=.pointer (zO B 0):=b 4;exact zs (by go_simp) rfl
     refine zc.cons 4 rfl ?_ ?_
     ·intro T w' i b a;have j:T.getD 19 undef=_:=a 2 19;obtain ⟨E,c1,c2,c3,c4⟩:=s.o w' (za l.o i);exact zs (by go_simp) rfl
     refine zc.cons 5 rfl ?_ ?_
     ·intro T w' i b a;have j:T.getD 4 undef=.pointer (zO B 0):=b 4;exact zs (by go_simp) rfl
     refine zc.cons 6 rfl ?_ ?_
     ·intro T w' i b a;have j:T.getD 21 undef=_:=a 4 21;obtain ⟨E,c1,c2,c3,c4⟩:=s.o w' (za l.o i);exact zs (by go_simp) rfl
     refine zc.cons 7 rfl ?_ ?_
     ·intro T w' i b a;have j:T.getD 9 undef=zI k:=b 9;exact zs (by go_simp) rfl
     refine zc.cons 8 rfl ?_ ?_
     ·intro T w' i b a;have j:T.getD 22 undef=_:=a 5 22;have ag:T.getD 23 undef=_:=a 6 23;exact zs (by go_simp) rfl
     refine zc.cons 9 rfl ?_ ?_
     ·intro T w' i b a;have j:T.getD 24 undef=_:=a 7 24;exact zs (by go_simp) rfl
     refine zc.cons 10 rfl ?_ ?_
     ·intro T w' i b a;have j:T.getD 25 undef=_:=a 8 25;have dd:=cell_later i A;exact zs (by go_simp) rfl
     refine zc.cons 11 rfl ?_ ?_
     ·intro T w' i b a;have j:T.getD 4 undef=.pointer (zO B 0):=b 4;exact zs (by go_simp) rfl
     refine zc.cons 12 rfl ?_ ?_
     ·intro T w' i b a;have j:T.getD 27 undef=_:=a 10 27;obtain ⟨E,c1,c2,c3,c4⟩:=s.o w' (za l.o i);exact zs (by go_simp) rfl
     refine zc.cons 13 rfl ?_ ?_
     ·intro T w' i b a;have j:T.getD 9 undef=zI k:=b 9;exact zs (by go_simp) rfl
     refine zc.cons 14 rfl ?_ ?_
     ·intro T w' i b a;have j:T.getD 28 undef=_:=a 11 28;have ag:T.getD 29 undef=_:=a 12 29;exact zs (by go_simp) rfl
     refine zc.cons 15 rfl ?_ ?_
     ·intro T w' i b a;have j:T.getD 30 undef=_:=a 13 30;exact zs (by go_simp) rfl
     refine zc.cons 16 rfl ?_ ?_
     ·intro T w' i b a;have j:T.getD 31 undef=_:=a 14 31;have dd:=cell_later i af;exact zs (by go_simp) rfl
     refine zc.cons 17 rfl ?_ ?_
     ·intro T w' i b a;have j:T.getD 17 undef=_:=a 0 17;have ag:T.getD 18 undef=_:=a 1 18;have aT:T.getD 20 undef=_:=a 3 20;have aU:T.getD 26 undef=_:=a 9 26;have aV:T.getD 32 undef=_:=a 15 32;refine Or.inr ⟨159,#[.agg (ya (zn f)),zI fm,zI r.un,zI (zp r.ps k),zI (rN r.ps k)],by go_simp,?_⟩;refine (N.o w').mono ?_;rintro e a6 ⟨rfl,aB⟩;exact ⟨_,rfl,rfl,aB⟩
     refine zc.cons 18 rfl ?_ ?_
     ·intro T w' i b a;have j:T.getD 33 undef=_:=a 16 33;exact zs (by go_simp) rfl
     exact trivial
    intro T w' i U b a;have ay:T.getD 34 undef=.bool (!p):=a 17 34;rw [yb (tt 17 [false,false,false,false,false,false,false,false,false,false,false,false,false,false,false,false,false,false] 15) (by kernel_rfl) U @b];obtain ⟨us,ap⟩:∃ us:Nat->Value,(fun d=>T.getD d undef)=us:=⟨_,rfl⟩;rw [ap];have az:us 34=.bool (!p):=(by rw [<-ap];exact ay);apply_assumption;simp only [xj,tt,List.replicate,List.cons_append,List.nil_append];go_meet;exact ⟨az,i⟩
   obtain ⟨rfl,y⟩:=hcut;have Z:=zh (za l.o y);have ab:=zh (aa.o.keep y)
   replace c4:=cell_later y c4
   replace A:=cell_later y A
   have aF:W0.heap.size<=wc.heap.size:=(by have:=y.size;omega);have aO:=zh c4;have aP:=zh A;clear y E c1 c2 c3 af N c4 A;cases p with
   | false =>
    have I:Zh (([],false)=x):=(by show ([],false)=x;rw [<-Y.o,XC ar.o M.o (by omega)];rfl);go_wp2;go_ret2
    rw [<-I.o];exact ws (za u.o Z.o)
   | true =>
    have aw:Zh (yr r f t (k+1)=some (fm+zp r.ps k,bs++[((k:Int),fm)])):=M.o;have aq:True:=trivial;go_wp2_with (at_builtin;have _t:=aq;refine wpList_append_own _ rfl _ _ 58 rfl W0.heap.size 62 aK (.agg #[zI 0,zI 0]) 2 16 Tryz.underlying58 aD aH aI aJ rfl (by decide) _ _ _ rfl (ab.o.alloc _) (zA wc.heap.size 0) 1 1 [zI k,zI fm] rfl rfl ?c1 ?c2 ?c3 ?c4 ?c5 ?_;clear aq)
    case c2=>exact ⟨rfl,rfl⟩
    case c3=>have:=J.o;simp only [maxLen];omega
    case c4=>have:=J.o;omega
    case c5=>omega
    intro a5 aM am aj _;have D:=zh (Xi Z.o aF ab.o am aj);clear am aj;obtain ⟨_,_,_,_,aS⟩:=s.o aM D.o.2.1;have dd:=cell_later (za u.o D.o.2.1) (L.o k C).1;go_wp2;go_roundw
    case rel=>exact ⟨k+1,fm+zp r.ps k,bs++[((k:Int),fm)],by go_num,by omega,rfl,by omega,by omega,aw.o,D.o.1,D.o.2.1⟩
    case measure=>simp [intOf];omega
  obtain rfl:k=r.pn:=by omega
  have I:Zh ((bs,true)=x):=by show (bs,true)=x;rw [<-Y.o,ae.o];rfl
  obtain ⟨aQ,aR,rfl,aA⟩:=zP.parts aa.o (by have:=J.o;omega);go_wp2;go_ret2
  rw [<-I.o];exact ⟨_,_,_,rfl,aA.mono u.o.size,za u.o l.o⟩
theorem Gd {r:Rq} (b:z8 false r=0) {g:zd} (hg:zW g) {fm:Int} {k:Nat} (c:k<r.ps.length) (d:0<=fm):Te (zn g) fm.toNat r.un.toNat (zp r.ps k).toNat (rN r.ps k)=((yj r g fm k).1,(yj r g fm k).2.1):=by
 have f:=yh b c;have h:=xA b;unfold yj yp Te;rw [if_pos (zX.2 hg)];by_cases e:fm<r.un
 ·have a:(Xw fm r.un&&yW (zp r.ps k) 1 24)=true:=by
   rw [Bool.and_eq_true]
   constructor
   ·simp [Xw];omega
   ·simp [yW];omega
  rw [if_pos a];show (match WR g fm.toNat r.un.toNat (zp r.ps k).toNat (rN r.ps k) with | some t=>((t:Int),true) | none=>(0,false))=_;cases WR g fm.toNat r.un.toNat (zp r.ps k).toNat (rN r.ps k) <;> rfl
 have a:(Xw fm r.un&&yW (zp r.ps k) 1 24)=false:=by
  rw [Bool.eq_false_iff];simp [Xw];omega
 rw [a,if_neg (by decide),show r.un.toNat-fm.toNat=0 from by omega];rfl
theorem VA (w:World) {r:Rq} (a:z8 false r=0) {g:zd} (hg:zW g) {fm:Int} {k:Nat} (c:k<r.ps.length) (d:0<=fm) (f:fm<=200) :
 zC 115 #[.agg (ya (zn g)),zI fm,zI r.un,zI (zp r.ps k),zI (rN r.ps k)] w fun e w'=>e=.returned (.tuple #[zI (yj r g fm k).1,.bool (yj r g fm k).2.1])/\Below w.heap.size w w':=by
 have h:=yh a c;have i:=xA a;have b:=OP w (zn g) fm r.un (zp r.ps k) (rN r.ps k) fm.toNat r.un.toNat (zp r.ps k).toNat (by omega) (by omega) (by omega) (by omega) (by omega) (by omega) (by omega);rw [Gd a hg c d] at b;exact b
theorem KY (w:World) (f:zd) (W:zW f) (r:Rq) (h:zH w r) (d:z8 false r=0) (Z:r.kind=4) :
 zC 70 #[.agg (ya (zn f)),.agg #[zI r.queue,zI r.fr,zI r.un,zI r.kind,.slice r.pa r.pn r.pc]] w fun e w'=>ZB w w' e (Yu r f):=by
 obtain ⟨i,D⟩:=qA (Yu r f);rw [D];have U:=zh fun X (al:zL w X) t ar au=>N0 X f W r (h.later al) d t ar au;have aC:=h.capb;have aH:=h.le;have az:=zh h.len;have aq:0<r.pn:=by have:=of_decide_eq_true (zv.1 d).2.1;have:=h.len;omega
 have aJ:r.pn<=3:=by have:=of_decide_eq_true (zv.1 d).2.1;have:=h.len;omega
 obtain ⟨L,M,J,aa⟩:=h.cells aq;have ad:=zh aa;have ae:=zh fun k (am:k<r.pn)=>yh d (k:=k) (by have:=h.len;omega);have A:=zh (xA d);have ag:=zh fun (X:World) (g:zd) (hg:zW g) (fm:Int) (k:Nat) (am:k<r.pn) (aj:0<=fm) (ak:fm<=200)=>VA X d hg (k:=k) (by have:=h.len;omega) aj ak;obtain ⟨aO,aD,aL,aM,aN⟩:=info_parts Tryz.infoBite;have l:=zh (((Below.refl w.heap.size w).alloc (Nat.le_refl _) (.cells (ya (zn f)) 126)).alloc (by simp) (.cells #[zI r.queue,zI r.fr,zI r.un,zI r.kind,.slice (zO L M) r.pn r.pc] 24));have C:=zh ((ZU.new w (zn f)).alloc (.cells #[zI r.queue,zI r.fr,zI r.un,zI r.kind,.slice (zO L M) r.pn r.pc] 24));have m:=zh (wn (w.alloc (.cells (ya (zn f)) 126)) r);rw [J] at m;rw [J];rw [J] at U;have aG:(r.kind==4)=true:=by simp [Z]
 have O:=zh D;obtain ⟨F,G⟩:∃ F:Nat,r.fr=F:=⟨r.fr.toNat,by have:=A.o;omega⟩;obtain ⟨a,I⟩:∃ a:Nat,r.un=a:=⟨r.un.toNat,by have:=A.o;omega⟩;have ab:=zh G;have S:=zh I;have P:Zh (F<a/\a<=48):=by have:=A.o;exact ⟨by omega,by omega⟩
 have Q:Zh (Yu r f=match zw (fun t=>(yr r f t r.ps.length).isSome) F (a-F) with | some t=>yB (yr r f t r.ps.length) | none=>([],false)):=by
  show Yu r f=_;rw [Yu,G,I,Int.toNat_natCast,Int.toNat_natCast];rfl
 clear G I aa h W d D Z ag ad ae;go_enter Tryz.func70,Tryz.ntmps70;go_wp2_with fail
 obtain ⟨W0,u⟩:=qA ((w.alloc (.cells (ya (zn f)) 126)).alloc (.cells #[zI r.queue,zI r.fr,zI r.un,zI r.kind,.slice (some ⟨L,M,none⟩) r.pn r.pc] 24));obtain ⟨b,H⟩:=qA (w.heap.size);obtain ⟨B,E⟩:=qA (w.heap.size+1);have aK:w.heap.size+2<=W0.heap.size:=by rw [<-u];simp
 rw [u] at m C l;rw [World.size_alloc,E] at m;rw [E,H,u];rw [H] at C;have aB:b<W0.heap.size:=by omega
 have aA:B<W0.heap.size:=by omega
 have ay:=zh (show w.heap.size<=b/\w.heap.size<=B/\B≠b from by omega);clear u H E;obtain ⟨q,c1,c2,c3,c4⟩:=m.o W0 (Below.refl _ _);go_wp2_with fail
 go_loopw [6] (fun N wr=>∃ k:Nat,N=zI k/\F<=k/\k<=a/\zw (fun t=>(yr r f t r.ps.length).isSome) F (a-F)=zw (fun t=>(yr r f t r.ps.length).isSome) k (a-k)/\zL W0 wr) (fun N _=>a-(intOf N).toNat)
 case atStart=>exact ⟨F,by rw [ab.o],Nat.le_refl _,by have:=P.o;omega,rfl,Below.refl _ _⟩
 case round =>
  clear q c1 c2 c3 c4;obtain ⟨k,rfl,aE,aF,Y,V⟩:=hrel;have y:=zh Y;have c:=zh V;clear Y V;have R:Zh (ZU wr b (zn f)):=C.o.later c.o;obtain ⟨q,c1,c2,c3,c4⟩:=m.o wr c.o;by_cases aI:k<a
  ·have ao:(k:Int)<r.un:=(by have:=S.o;omega);have an:(k:Int)<=48:=(by have:=P.o;omega);have j:=U.o wr (za l.o c.o) k (by omega) an;cases p:yr r f k r.ps.length with
   | none =>
    rw [p] at j;have z:=zh j;clear j;go_wp2_with (refine wpList_load_row rfl 126 (.tmp 2) rfl b rfl 126 (ya (zn f)) (0,0) _ R.o Tryz.underlying126 rfl (size61 _) ?_)
    refine z.o.mono ?_;rintro e ax ⟨ah,aw,ai,rfl,s,n⟩;have x:=zh (za c.o n);clear n q c1 c2 c3 c4 s;have ap:(yB (none:Option (Int×zd))).2=false:=rfl;rw [ap];go_wp2;go_roundw
    case rel=>exact ⟨k+1,by go_num,by omega,by omega,by rw [y.o,wQ (by omega) (by show (yr r f k r.ps.length).isSome=false;rw [p];rfl)];rfl,x.o⟩
    case measure=>simp [intOf];omega
   | some X =>
    have v:Zh (yB (some X)=i):=by
     show yB (some X)=i;rw [<-O.o,Q.o,y.o,Zn (by omega) (by show (yr r f k r.ps.length).isSome=true;rw [p];rfl)];simp only [p]
    rw [p] at j;have z:=zh j;clear j;go_wp2_with (refine wpList_load_row rfl 126 (.tmp 2) rfl b rfl 126 (ya (zn f)) (0,0) _ R.o Tryz.underlying126 rfl (size61 _) ?_)
    refine z.o.mono ?_;rintro e ax ⟨ah,aw,ai,rfl,s,n⟩;have x:=zh (za c.o n);have af:=zh s;clear n q c1 c2 c3 c4 s;have av:(yB (some X)).2=true:=rfl;rw [av];go_wp2;go_ret2
    rw [<-v.o];exact ⟨_,_,_,rfl,af.o.mono (za l.o c.o).size,za l.o x.o⟩
  obtain rfl:k=a:=by omega
  have ao:¬(k:Int)<r.un:=by have:=S.o;omega
  have v:Zh (([],false)=i):=by
   show ([],false)=i;rw [<-O.o,Q.o,y.o,Nat.sub_self];rfl
  go_wp2;go_ret2
  rw [<-v.o];exact ws (za l.o c.o)
theorem KJ (w:World) (f:zd) (aC:zW f) (r:Rq) (h:zH w r) (q:z8 false r=0) (t:r.kind=3) :
 zC 70 #[.agg (ya (zn f)),.agg #[zI r.queue,zI r.fr,zI r.un,zI r.kind,.slice r.pa r.pn r.pc]] w fun e w'=>ZB w w' e (yB (ye r f r.ps.length)):=by
 obtain ⟨i,C⟩:=qA (yB (ye r f r.ps.length));rw [C];have bd:=h.capb;have bm:=h.le;have aP:=zh h.len;have aI:0<r.pn:=by have:=of_decide_eq_true (zv.1 q).2.1;have:=h.len;omega
 have bo:r.pn<=3:=by have:=of_decide_eq_true (zv.1 q).2.1;have:=h.len;omega
 obtain ⟨J,al,aG,aH⟩:=h.cells aI;have U:=zh aH;have aQ:=zh fun k (aD:k<r.pn)=>yh q (k:=k) (by have:=h.len;omega);have u:=zh (xA q);have aS:=zh fun (X:World) (g:zd) (hg:zW g) (fm:Int) (k:Nat) (aD:k<r.pn) (aT:0<=fm) (aU:fm<=200)=>VA X q hg (k:=k) (by have:=h.len;omega) aT aU;obtain ⟨a3,aX,a0,a1,a2⟩:=info_parts Tryz.infoBite;have j:=zh (((Below.refl w.heap.size w).alloc (Nat.le_refl _) (.cells (ya (zn f)) 126)).alloc (by simp) (.cells #[zI r.queue,zI r.fr,zI r.un,zI r.kind,.slice (zO J al) r.pn r.pc] 24));have aa:=zh ((ZU.new w (zn f)).alloc (.cells #[zI r.queue,zI r.fr,zI r.un,zI r.kind,.slice (zO J al) r.pn r.pc] 24));have c:=zh (wn (w.alloc (.cells (ya (zn f)) 126)) r);rw [aG] at c;rw [aG];have bl:(r.kind==4)=false:=by simp [t]
 have bg:(r.kind==1)=false:=by simp [t]
 have bh:(r.kind==2)=false:=by simp [t]
 have bi:(r.kind != 2)=true:=by simp [t]
 have bj:(r.kind==3)=true:=by simp [t]
 rw [<-aP.o] at C;have ao:=zh C;have aO:=zh (RH (r:=r) (f:=f));have aM:=zh aC;clear aH h aC q C t;go_enter Tryz.func70,Tryz.ntmps70;go_wp2_with fail
 obtain ⟨W0,F⟩:=qA ((w.alloc (.cells (ya (zn f)) 126)).alloc (.cells #[zI r.queue,zI r.fr,zI r.un,zI r.kind,.slice (some ⟨J,al,none⟩) r.pn r.pc] 24));obtain ⟨b,af⟩:=qA (w.heap.size);obtain ⟨B,ae⟩:=qA (w.heap.size+1);have bq:w.heap.size+2<=W0.heap.size:=by rw [<-F];simp
 rw [F] at c aa j;rw [World.size_alloc,ae] at c;rw [ae,af,F];rw [af] at aa;have bb:b<W0.heap.size:=by omega
 have a9:B<W0.heap.size:=by omega
 have a5:=zh (show w.heap.size<=b/\w.heap.size<=B/\B≠b from by omega);clear F af ae;obtain ⟨n,c1,c2,c3,c4⟩:=c.o W0 (Below.refl _ _);go_wp2_with fail
 go_loopw [9,10,11] (fun v a4 am wr=>∃ (k:Nat) (fm:Int) (bs:zd),am=zI k/\k<=r.pn/\a4=zI fm/\0<=fm/\fm<=72/\ye r f k=some (fm,bs)/\zP wr W0.heap.size v bs/\zL W0 wr) (fun _ _ am _=>r.pn-(intOf am).toNat)
 case atStart=>exact ⟨0,r.fr,[],rfl,by omega,rfl,by have:=u.o;omega,by have:=u.o;omega,rfl,World.ownsRow_nil _ _ _ _,Below.refl _ _⟩
 case round =>
  clear n c1 c2 c3 c4;obtain ⟨k,fm,bs,rfl,aD,rfl,be,bf,ak,aE,ai⟩:=hrel;have W:=zh ak;have S:=zh aE;have l:=zh ai;have aB:bs.length=k:=Tm ak;have Q:=zh aB;have br:W0.heap.size<=wr.heap.size:=ai.size;have bc:b<wr.heap.size:=by omega
  have ba:B<wr.heap.size:=by omega
  have bp:J<wr.heap.size:=Nat.lt_of_lt_of_le (block_lt_of_cell (U.o 0 aI).1) (by omega);clear ak aE ai aB;have aR:Zh (ZU wr b (zn f)):=aa.o.later l.o;obtain ⟨n,c1,c2,c3,c4⟩:=c.o wr l.o;by_cases I:k<r.pn
  ·have bn:(k:Int)<r.pn:=(by omega);have ay:=cell_later (za j.o l.o) (U.o k I).1;have az:=cell_later (za j.o l.o) (U.o k I).2;have aY:=aQ.o k I;obtain ⟨m,p⟩:=qB (wr.alloc (.cells #[zI (zp r.ps k),zI (rN r.ps k)] 64));have Y:Zh (ZU (wr.alloc (.cells #[zI (zp r.ps k),zI (rN r.ps k)] 64)) b (zn f)):=aR.o.alloc _;have an:zL wr m:=(by rw [p];exact zr _ _);have A:=aS.o m f aM.o fm k I (by have:=u.o;omega) (by have:=u.o;omega);have aA:=Wi r f fm k;obtain ⟨X,ah⟩:=qA (yj r f fm k);rw [ah] at A aA;have ax:=zh ah;obtain ⟨L,D⟩:=qA (zp r.ps k);obtain ⟨M,E⟩:=qA (rN r.ps k);have aN:=zh D;have a6:=zh E;rw [D,E] at aY A p Y;rw [D] at ay;rw [E] at az;have ab:m.cell? (zA wr.heap.size 0)=some (zI L):=(by rw [p];go_simp);have ad:m.cell? (zA wr.heap.size 1)=some (zI M):=(by rw [p];go_simp);have aq:=zh ab;have au:=zh ad;have aw:=zh p;have R:=zh A;have ap:=zh an;clear ah D E ab ad p A an;obtain ⟨x,y,z⟩:=X;simp only at R aA;go_wp2_with (refine wpList_load_row rfl 126 (.tmp 2) rfl b rfl 126 (ya (zn f)) (0,0) _ Y.o Tryz.underlying126 rfl (size61 _) ?_)
   rw [<-aw.o];refine R.o.mono ?_;rintro e d ⟨rfl,G⟩;have H:=za ap.o G;have aK:=zh H;have ar:=zh (cell_later G aq.o);have aL:=zh (cell_later G au.o);have av:=zh (S.o.keep H);have aZ:W0.heap.size<=d.heap.size:=(by have:=H.size;omega);have aW:wr.heap.size<d.heap.size:=block_lt_of_cell ar.o;clear G H n c1 c2 c3 c4 ay az aw R ap aq au Y;have P:=zh (za l.o aK.o);obtain ⟨n,c1,c2,c3,c4⟩:=c.o d P.o;cases y with
   | false =>
    have V:Zh (ye r f (k+1)=none):=(by show ye r f (k+1)=none;rw [ye,W.o];simp only [ax.o];rfl);have O:Zh (([],false)=i):=(by show ([],false)=i;rw [<-ao.o,XC aO.o V.o (by omega)];rfl);go_wp2;go_ret2
    rw [<-O.o];exact ws (za j.o P.o)
   | true =>
    have V:Zh (ye r f (k+1)=some (x+L,bs++[((k:Int),x)])):=(by show ye r f (k+1)=_;rw [ye,W.o];simp only [ax.o,aN.o];rfl);have aJ:True:=trivial;go_wp2_with (at_builtin;have _t:=aJ;refine wpList_append_own _ rfl _ _ 58 rfl W0.heap.size 62 a3 (.agg #[zI 0,zI 0]) 2 16 Tryz.underlying58 aX a0 a1 a2 rfl (by decide) _ _ _ rfl (av.o.alloc _) (zA d.heap.size 0) 1 1 [zI k,zI x] rfl rfl ?c1 ?c2 ?c3 ?c4 ?c5 ?_;clear aJ)
    case c1=>exact XG _ _ _ _
    case c2=>exact XH _ _
    case c3=>have:=Q.o;simp only [maxLen];omega
    case c4=>have:=Q.o;omega
    case c5=>simp;omega
    intro bt N aF aj _;have Z:=zh (Xi P.o aZ av.o aF aj);have ag:N.heap[wr.heap.size]?=d.heap[wr.heap.size]?:=(aj.block wr.heap.size (by simp;omega) (fun e=>by have:=(S.o.lt _ e.symm).2;omega)).trans (Below.heap_alloc _ _ _ aW);have ab:N.cell? (zA wr.heap.size 0)=some (zI L):=(World.cell?_of_block (w:=d) (a:=(zA wr.heap.size 0)) ag).trans ar.o;have ad:N.cell? (zA wr.heap.size 1)=some (zI M):=(World.cell?_of_block (w:=d) (a:=(zA wr.heap.size 1)) ag).trans aL.o;clear aF aj ag n c1 c2 c3 c4;obtain ⟨n,c1,c2,c3,c4⟩:=c.o N Z.o.2.1;go_wp2_with fail
    go_loop [15] (fun s=>s=zI x) (fun _=>0)
    case atStart=>rfl
    subst hrel;go_wp2_with fail
    go_roundw
    case rel=>exact ⟨k+1,x+L,bs++[((k:Int),x)],by go_num,by omega,rfl,by omega,by omega,V.o,Z.o.1,Z.o.2.1⟩
    case measure=>simp [intOf];omega
  obtain rfl:k=r.pn:=by omega
  have O:Zh ((bs,true)=i):=by show (bs,true)=i;rw [<-ao.o,W.o];rfl
  obtain ⟨a7,a8,rfl,aV⟩:=zP.parts S.o (by have:=Q.o;omega);go_wp2_with fail
  go_quiet (fail)
  go_wp2;go_ret2
  rw [<-O.o];exact ⟨_,_,_,rfl,(aV.later (_root_.Go.below_drewN (Below.refl _ _) _)).mono j.o.size,_root_.Go.below_drewN (za j.o l.o) _⟩
def zzMk (w w':World) (e:Ending) (x:zd×Bool):Prop:=∃ a n cap,e=.returned (.tuple #[.slice a n cap,.bool x.2])/\(x.2=true->wk w.heap.size w' a n cap x.1)/\Below w.heap.size w w'
theorem ZB.weak {w w':World} {e:Ending} {x:zd×Bool} (h:ZB w w' e x):zzMk w w' e x:=by
 obtain ⟨a,n,b,c,d,f⟩:=h;exact ⟨a,n,b,c,fun _=>d,f⟩
theorem KG (w:World) (f:zd) (aC:zW f) (r:Rq) (h:zH w r) (q:z8 false r=0) (t:r.kind=2) :
 Calls Tryz.prog 70 #[.agg (ya (zn f)),.agg #[zI r.queue,zI r.fr,zI r.un,zI r.kind,.slice r.pa r.pn r.pc]] w fun e w'=>zzMk w w' e (P5 r f):=by
 obtain ⟨D,ae⟩:=qA (P5 r f);rw [ae];have bf:=h.capb;have bm:=h.le;have aO:=zh h.len;have aI:0<r.pn:=by have:=of_decide_eq_true (zv.1 q).2.1;have:=h.len;omega
 have bo:r.pn<=3:=by have:=of_decide_eq_true (zv.1 q).2.1;have:=h.len;omega
 obtain ⟨Q,al,aG,aH⟩:=h.cells aI;have W:=zh aH;have aP:=zh fun k (C:k<r.pn)=>yh q (k:=k) (by have:=h.len;omega);have aw:=zh (xA q);have aR:=zh fun (X:World) (g:zd) (hg:zW g) (fm:Int) (k:Nat) (C:k<r.pn) (aS:0<=fm) (aT:fm<=200)=>VA X q hg (k:=k) (by have:=h.len;omega) aS aT;obtain ⟨a3,aW,a0,a1,a2⟩:=info_parts Tryz.infoBite;have j:=zh (((Below.refl w.heap.size w).alloc (Nat.le_refl _) (.cells (ya (zn f)) 126)).alloc (by simp) (.cells #[zI r.queue,zI r.fr,zI r.un,zI r.kind,.slice (some ⟨Q,al,none⟩) r.pn r.pc] 24));have ab:=zh ((ZU.new w (zn f)).alloc (.cells #[zI r.queue,zI r.fr,zI r.un,zI r.kind,.slice (some ⟨Q,al,none⟩) r.pn r.pc] 24));have i:=zh (wn (w.alloc (.cells (ya (zn f)) 126)) r);rw [aG] at i;rw [aG];have bl:(r.kind==4)=false:=by simp [t]
 have bg:(r.kind==1)=false:=by simp [t]
 have bh:(r.kind==2)=true:=by simp [t]
 have bi:(r.kind != 2)=false:=by simp [t]
 have bj:(r.kind==3)=false:=by simp [t]
 have aN:=zh aC;have ao:Zh (∀ k,k<=r.pn->zw (fun k=>(yj r f r.fr k).2.1) 0 r.pn=zw (fun k=>(yj r f r.fr k).2.1) k (r.pn-k)->(k=r.pn->D=([],false))/\(k<r.pn->(yj r f r.fr k).2.1=true->D=([((k:Int),(yj r f r.fr k).1)],true))):=by
  intro k C aV;rw [<-ae,P5,<-aO.o,aV];refine ⟨fun e=>by subst e;rw [Nat.sub_self];rfl,fun u aZ=>by rw [Zn (by omega) aZ]⟩
 clear aH h aC q ae t;go_enter Tryz.func70,Tryz.ntmps70;go_wp2_with fail
 obtain ⟨W0,N⟩:=qA ((w.alloc (.cells (ya (zn f)) 126)).alloc (.cells #[zI r.queue,zI r.fr,zI r.un,zI r.kind,.slice (some ⟨Q,al,none⟩) r.pn r.pc] 24));obtain ⟨c,ag⟩:=qA (w.heap.size);obtain ⟨B,af⟩:=qA (w.heap.size+1);have bq:w.heap.size+2<=W0.heap.size:=by rw [<-N];simp
 rw [N] at i ab j;rw [World.size_alloc,af] at i;rw [af,ag,N];rw [ag] at ab;have bc:c<W0.heap.size:=by omega
 have ba:B<W0.heap.size:=by omega
 have a5:=zh (show w.heap.size<=c/\w.heap.size<=B/\B≠c from by omega);clear N ag af;obtain ⟨n,c1,c2,c3,c4⟩:=i.o W0 (Below.refl _ _);go_wp2_with fail
 go_loopw [9,10,11] (fun v a4 am wr=>∃ (k:Nat) (bs:zd),am=zI k/\k<=r.pn/\a4=zI r.fr/\zw (fun k=>(yj r f r.fr k).2.1) 0 r.pn=zw (fun k=>(yj r f r.fr k).2.1) k (r.pn-k)/\bs.length=k/\zP wr W0.heap.size v bs/\zL W0 wr) (fun _ _ am _=>r.pn-(intOf am).toNat)
 case atStart=>exact ⟨0,[],rfl,by omega,rfl,rfl,rfl,World.ownsRow_nil _ _ _ _,Below.refl _ _⟩
 case round =>
  clear n c1 c2 c3 c4;obtain ⟨k,bs,rfl,C,rfl,aD,aB,aE,aj⟩:=hrel;have S:=zh aD;have V:=zh aE;have l:=zh aj;have G:=zh aB;have br:W0.heap.size<=wr.heap.size:=aj.size;have bd:c<wr.heap.size:=by omega
  have bb:B<wr.heap.size:=by omega
  have bp:Q<wr.heap.size:=Nat.lt_of_lt_of_le (block_lt_of_cell (W.o 0 aI).1) (by omega);clear aD aE aj aB;have aQ:Zh (ZU wr c (zn f)):=ab.o.later l.o;obtain ⟨n,c1,c2,c3,c4⟩:=i.o wr l.o;by_cases u:k<r.pn
  ·have bn:(k:Int)<r.pn:=(by omega);have ay:=cell_later (za j.o l.o) (W.o k u).1;have az:=cell_later (za j.o l.o) (W.o k u).2;have aX:=aP.o k u;obtain ⟨m,p⟩:=qB (wr.alloc (.cells #[zI (zp r.ps k),zI (rN r.ps k)] 64));have Y:Zh (ZU (wr.alloc (.cells #[zI (zp r.ps k),zI (rN r.ps k)] 64)) c (zn f)):=aQ.o.alloc _;have an:zL wr m:=(by rw [p];exact zr _ _);have H:=aR.o m f aN.o r.fr k u (by have:=aw.o;omega) (by have:=aw.o;omega);have aA:=Wi r f r.fr k;obtain ⟨X,ai⟩:=qA (yj r f r.fr k);rw [ai] at H aA;have Z:=zh ai;obtain ⟨L,I⟩:=qA (zp r.ps k);obtain ⟨M,J⟩:=qA (rN r.ps k);have a6:=zh I;have a7:=zh J;rw [I,J] at aX H p Y;rw [I] at ay;rw [J] at az;have ad:m.cell? ⟨wr.heap.size,0,none⟩=some (zI L):=(by rw [p];go_simp);have A:m.cell? ⟨wr.heap.size,1,none⟩=some (zI M):=(by rw [p];go_simp);have aq:=zh ad;have au:=zh A;have ax:=zh p;have U:=zh H;have ap:=zh an;clear ai I J ad A p H an;obtain ⟨x,y,z⟩:=X;simp only at U aA;go_wp2_with (refine wpList_load_row rfl 126 (.tmp 2) rfl c rfl 126 (ya (zn f)) (0,0) _ Y.o Tryz.underlying126 rfl (size61 _) ?_)
   rw [<-ax.o];refine U.o.mono ?_;rintro e d ⟨rfl,O⟩;have P:=za ap.o O;have aK:=zh P;have ar:=zh (cell_later O aq.o);have aL:=zh (cell_later O au.o);have av:=zh (V.o.keep P);have aY:W0.heap.size<=d.heap.size:=(by have:=P.size;omega);have aU:wr.heap.size<d.heap.size:=block_lt_of_cell ar.o;clear O P n c1 c2 c3 c4 ay az ax U ap aq au Y;have F:=zh (za l.o aK.o);obtain ⟨n,c1,c2,c3,c4⟩:=i.o d F.o;cases y with
   | true =>
    have E:=zh ((ao.o k C S.o).2 u (by rw [Z.o]));rw [Z.o] at E;go_wp2;go_ret2
    rw [E.o];exact ⟨_,1,1,rfl,fun _=>⟨Tn d [((k:Int),x)] _ 62 1 rfl rfl (by simp),fun b bt e=>by
     injection e with e;injection e with A;subst A;exact ⟨(za j.o F.o).size,_,_,heap_alloc_new d _⟩⟩,(za j.o F.o).alloc (by omega) _⟩
   | false =>
    have aM:Zh (zw (fun k=>(yj r f r.fr k).2.1) 0 r.pn=zw (fun k=>(yj r f r.fr k).2.1) (k+1) (r.pn-(k+1))):=by
     show zw (fun k=>(yj r f r.fr k).2.1) 0 r.pn=zw (fun k=>(yj r f r.fr k).2.1) (k+1) (r.pn-(k+1));rw [S.o,wQ (by omega) (by rw [Z.o])];rfl
    have aJ:True:=trivial;go_wp2_with (at_builtin;have _t:=aJ;refine wpList_append_own _ rfl _ _ 58 rfl W0.heap.size 62 a3 (.agg #[zI 0,zI 0]) 2 16 Tryz.underlying58 aW a0 a1 a2 rfl (by decide) _ _ _ rfl (av.o.alloc _) ⟨d.heap.size,0,none⟩ 1 1 [zI k,zI x] rfl rfl ?c1 ?c2 ?c3 ?c4 ?c5 ?_;clear aJ)
    case c1=>exact XG _ _ _ _
    case c2=>exact XH _ _
    case c3=>have:=G.o;simp only [maxLen];omega
    case c4=>have:=G.o;omega
    case c5=>simp;omega
    intro bu R aF ak _;have aa:=zh (Xi F.o aY av.o aF ak);have ah:R.heap[wr.heap.size]?=d.heap[wr.heap.size]?:=(ak.block wr.heap.size (by simp;omega) (fun e=>by have:=(V.o.lt _ e.symm).2;omega)).trans (Below.heap_alloc _ _ _ aU);have ad:R.cell? ⟨wr.heap.size,0,none⟩=some (zI L):=(World.cell?_of_block (w:=d) (a:=⟨wr.heap.size,0,none⟩) ah).trans ar.o;have A:R.cell? ⟨wr.heap.size,1,none⟩=some (zI M):=(World.cell?_of_block (w:=d) (a:=⟨wr.heap.size,1,none⟩) ah).trans aL.o;clear aF ak ah n c1 c2 c3 c4;obtain ⟨n,c1,c2,c3,c4⟩:=i.o R aa.o.2.1;go_wp2_with fail
    go_loop [15] (fun s=>s=zI x) (fun _=>0)
    case atStart=>rfl
    subst hrel;go_wp2_with fail
    go_roundw
    case rel=>exact ⟨k+1,bs++[((k:Int),x)],by go_num,by omega,rfl,aM.o,by have:=G.o;simp;omega,aa.o.1,aa.o.2.1⟩
    case measure=>simp [intOf];omega
  obtain rfl:k=r.pn:=by omega
  have E:=zh ((ao.o r.pn C S.o).1 rfl);obtain ⟨a8,a9,rfl,be⟩:=zP.parts V.o (by have:=G.o;omega);go_wp2_with fail
  go_quiet (fail)
  go_wp2;go_ret2
  rw [E.o];exact ⟨_,_,_,rfl,fun h=>(by cases h),_root_.Go.below_drewN (za j.o l.o) _⟩
end Go.Proofs.YtckpdfkobdgjeaaGreatDoor
