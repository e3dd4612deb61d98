/- Several texts in one: RefL, RefM, RefN, SameA, NoneA. -/
import Derived.BigQuiet
import Derived.Deep.LoopGhost
import Derived.Test.YtckpdfkobdgjeaaGreatDoorHRefK
import Derived.Test.YtckpdfkobdgjeaaGreatDoorHRefJ
import Derived.Test.YtckpdfkobdgjeaaGreatDoorHAll13
import Derived.Test.YtckpdfkobdgjeaaGreatDoorHRunsAll
import Derived.Test.YtckpdfkobdgjeaaGreatDoorHOwnC
import Derived.Test.YtckpdfkobdgjeaaGreatDoorHAll8
import Derived.Test.YtckpdfkobdgjeaaGreatDoorHAll20
namespace Go.Proofs.YtckpdfkobdgjeaaGreatDoor
set_option maxRecDepth 100000
set_option maxHeartbeats 4000000
open Go.RowKit
theorem zzIOx {l:QL} {x:Bk} (h:ZZ l x=0):yI l x.rq=0:=by
 unfold ZZ at h;by_cases a:yI l x.rq=0
 ·exact a
 rw [if_neg a] at h;exact h
theorem PO (w:World) (z:Option Addr) (B A:Nat) (l:QL) (ba:Option Addr) (bn bc:Nat) (b:BL) (h:zY w z B A l ba bn bc b) (u:Clean l b) :
 zC 97 #[.slice z B A,.slice ba bn bc] w fun e w'=>e=.returned (zI 0)/\Below w.heap.size w w':=by
 have ao:=zh h;have I:=zh u;have an:=zh h.2.len;have aD:=h.2.le;have aC:=h.2.capb;have aA:bn<=12:=by have:=u.few;have:=h.2.len;omega
 have C:=zh (Yw w z B A l h.1);rw [u.tree] at C;have aB:¬((12:Int)<bn):=by omega
 clear h u;go_enter Tryz.func97,Tryz.ntmps97;go_wp2_with fail
 refine C.o.mono ?_;rintro e aI ⟨rfl,O⟩;have ak:=zh O;clear O C;go_wp2_with fail
 go_loopg [6] bn (fun aw (p:Value) wr=>∃ (k:Nat),p=zI k/\k<=bn/\aw=bn-k/\zL w wr)
 case atStart=>exact ⟨0,rfl,Nat.zero_le _,by simp,ak.o⟩
 case round =>
  obtain ⟨k,rfl,aE,rfl,E⟩:=hrel;have H:=zh E;by_cases G:k<bn
  ·have aF:(k:Int)<bn:=(by omega);have aG:¬((k:Int)<0):=(by omega);have s:=ao.o.later E;obtain ⟨q,r,ax,Q⟩:=s.2.cells (by omega);subst ax;obtain ⟨X,N⟩:=qA (bk b k);obtain ⟨L,c1,c2,c3,c4,c5,D⟩:=Q k G;have y:=s.2.rqs k G;have F:=s.2.bites k G;have x:=I.o.each k (by have:=an.o;omega);rw [N] at L c1 c2 c3 c4 c5 D y F x;have J:=zh (Ue wr z B A l s.1 X.rq y);rw [zzIOx x] at J;have R:=(y8 I.o.tree x).1;have aq:Zh (∀ j,zL wr j->zC 148 #[.agg (zR X.rq),.slice X.ba X.bn X.bc] j fun e w'=>e=.returned (.bool true)/\zL j w'):=fun j t=>by
    have:=OM j X.rq (y.later t) X.ba X.bn X.bc X.bs (F.later t);rwa [R] at this
   have ae:=zh c1;have af:=zh c2;have ag:=zh c3;have ah:=zh c4;have ai:=zh c5;have aj:=zh D;clear s Q y F x N E R;go_wp2_with fail
   refine J.o.mono ?_;rintro e U ⟨rfl,n⟩;have ap:Zh (∀ j,zL U j->zC 148 #[.agg (zR X.rq),.slice X.ba X.bn X.bc] j fun e w'=>e=.returned (.bool true)/\zL j w'):=fun j t=>aq.o j (za n t);have W:=zh (cell_later n ae.o);have Y:=zh (cell_later n af.o);have Z:=zh (cell_later n ag.o);have aa:=zh (cell_later n ah.o);have ab:=zh (cell_later n ai.o);have ad:=zh (cell_later n aj.o);have al:=zh (za H.o n);clear L c1 c2 c3 c4 c5 D n;go_upto_region 12 with fail
   go_cut [43] (fun p V=>∃ ar,ar=V/\p=.bool false/\zL U V)
   case first =>
    refine zV ((Tryz.f97.body.bind fun c=>yi c 12).getD #[]) (by kernel_rfl) [zl (.slice (zO q r) bn bc),zl (zI k),zl (.pointer (zO q (r+k*7))),zl (.pointer (zO q (r+k*7+1))),zl (.agg (zR X.rq)),zl (.slice (zO q r) bn bc),zl (zI k),zl (.pointer (zO q (r+k*7))),zl (.pointer (zO q (r+k*7+6))),zl (.slice X.ba X.bn X.bc),zl (.bool true),zl (.bool false)] [] (by kernel_rfl) (by kernel_rfl) (by kernel_rfl) ?hg ?hstep ?hfin
    case hg =>
     intro g hg v w h;cases hg
    case hstep =>
     refine zc.cons 1 rfl ?_ ?_
     ·intro T w' f i a;have m:T.getD 1 undef=.slice (zO q r) bn bc:=i 1;exact zs (by go_simp) rfl
     refine zc.cons 2 rfl ?_ ?_
     ·intro T w' f i a;have m:T.getD 6 undef=zI k:=i 6;exact zs (by go_simp) rfl
     refine zc.cons 3 rfl ?_ ?_
     ·intro T w' f i a;have m:T.getD 32 undef=_:=a 0 32;have M:T.getD 33 undef=_:=a 1 33;exact zs (by go_simp) rfl
     refine zc.cons 4 rfl ?_ ?_
     ·intro T w' f i a;have m:T.getD 34 undef=_:=a 2 34;exact zs (by go_simp) rfl
     refine zc.cons 5 rfl ?_ ?_
     ·intro T w' f i a;have m:T.getD 35 undef=_:=a 3 35;have aK:=cell_later f W.o;have aL:=cell_later f Y.o;have aM:=cell_later f Z.o;have aN:=cell_later f aa.o;have aO:=cell_later f ab.o;exact zs (by go_simp) rfl
     refine zc.cons 6 rfl ?_ ?_
     ·intro T w' f i a;have m:T.getD 1 undef=.slice (zO q r) bn bc:=i 1;exact zs (by go_simp) rfl
     refine zc.cons 7 rfl ?_ ?_
     ·intro T w' f i a;have m:T.getD 6 undef=zI k:=i 6;exact zs (by go_simp) rfl
     refine zc.cons 8 rfl ?_ ?_
     ·intro T w' f i a;have m:T.getD 37 undef=_:=a 5 37;have M:T.getD 38 undef=_:=a 6 38;exact zs (by go_simp) rfl
     refine zc.cons 9 rfl ?_ ?_
     ·intro T w' f i a;have m:T.getD 39 undef=_:=a 7 39;exact zs (by go_simp) rfl
     refine zc.cons 10 rfl ?_ ?_
     ·intro T w' f i a;have m:T.getD 40 undef=_:=a 8 40;have aP:=cell_later f ad.o;exact zs (by go_simp) rfl
     refine zc.cons 11 rfl ?_ ?_
     ·intro T w' f i a;have m:T.getD 36 undef=_:=a 4 36;have M:T.getD 41 undef=_:=a 9 41;refine Or.inr ⟨148,#[.agg (zR X.rq),.slice X.ba X.bn X.bc],by go_simp,?_⟩;refine (ap.o w' f).mono ?_;rintro e aH ⟨rfl,ay⟩;exact ⟨_,rfl,rfl,ay⟩
     refine zc.cons 12 rfl ?_ ?_
     ·intro T w' f i a;have m:T.getD 42 undef=_:=a 10 42;exact zs (by go_simp) rfl
     exact trivial
    intro T w' f az i a;have au:T.getD 43 undef=.bool false:=a 11 43;rw [yb (tt 32 [false,false,false,false,false,false,false,false,false,false,false,false] 0) (by kernel_rfl) az @i];obtain ⟨us,S⟩:∃ us:Nat->Value,(fun d=>T.getD d undef)=us:=⟨_,rfl⟩;rw [S];have av:us 43=.bool false:=(by rw [<-S];exact au);apply_assumption;simp only [xj,tt,List.replicate,List.cons_append,List.nil_append];go_meet;exact ⟨_,rfl,av,f⟩
   obtain ⟨aJ,rfl,rfl,P⟩:=hcut;have am:=zh (za al.o P);clear P;go_wp2;go_roundg (bn-(k+1))
   case measure=>omega
   case rel=>exact ⟨k+1,by go_num,by omega,rfl,am.o⟩
  obtain rfl:bn=k:=by omega
  go_wp2;go_ret;exact ⟨rfl,H.o⟩
theorem SN (w:World) (r:Rq) (h:zH w r) (ba:Option Addr) (bn bc:Nat) (b:zd) (o:RunsIn w ba bn bc b) :
 Calls Tryz.prog 98 #[.agg #[.int .i64 r.queue,.int .i64 r.fr,.int .i64 r.un,.int .i64 r.kind,.slice r.pa r.pn r.pc],.slice ba bn bc] w fun e w'=>e=.returned (.tuple #[.int .i64 (if yd r b=true then zJ r b b.length else 0),.int .i64 (if yd r b=true then 0 else 1)])/\Below w.heap.size w w':=by
 have A:=zh o.len;have aT:=o.le;have aS:=o.capb;have m:=zh ((Below.refl w.heap.size w).alloc (Nat.le_refl _) (.cells #[.int .i64 r.queue,.int .i64 r.fr,.int .i64 r.un,.int .i64 r.kind,.slice r.pa r.pn r.pc] 24));have s:=zh fun d (o:Below w.heap.size w d)=>Ub d r (h.later o);have R:=zh (wn w r);by_cases B:bn=0
 ·have c:=Xa (show yd r b=false by rw [yd,<-A.out,B];simp);rw [c.1,c.2];clear c;subst B;go_enter Tryz.func98,Tryz.ntmps98;go_wp2;go_ret2
  exact ⟨rfl,m.out⟩
 have au:0<bn:=by omega
 have aQ:¬(bn:Int)=0:=by omega
 by_cases n:z8 false r=0
 ·have z:decide (z8 false r=0)=true:=by rw [n];rfl
  rw [z] at s;have ar:=h.len;have aJ:=of_decide_eq_true (zv.1 n).2.1;have aK:0<r.pn:=by omega
  have aV:r.pn<=3:=by omega
  have O:=zh ar;have I:=zh n;obtain ⟨ax,ay,V,aq⟩:=h.cells aK;obtain ⟨aj,ak,rfl,ao⟩:=o.cells au;rw [V] at s R m;rw [V];have aW:IntKind.i64.wrap ((r.pn:Int)-1)=r.pn-1:=by rw [IntKind.wrap_i64];omega
  have J:=zh ao;have af:=zh aq;obtain ⟨t,y⟩:∃ t:Value×Value,(.int .i64 (if yd r b=true then zJ r b b.length else 0),.int .i64 (if yd r b=true then 0 else 1))=t:=⟨_,rfl⟩;have ag:Value.int .i64 (if yd r b=true then zJ r b b.length else 0)=t.1:=by rw [<-y]
  have ah:Value.int .i64 (if yd r b=true then 0 else 1)=t.2:=by rw [<-y]
  rw [ag,ah];have ai:Zh (∀ j,j<bn->Xh r (zp b j) (rN b j)=false->t=(.int .i64 0,.int .i64 1)):=fun j ap U=>by
   have c:=Xa (show yd r b=false by rw [yd,U8,<-A.out,yO (p:=fun i=>Xh r (zp b i) (rN b i)) U bn ap];simp);rw [<-y,c.1,c.2]
  have aE:Zh (zQ (fun i=>Xh r (zp b i) (rN b i)) bn=true->t=(.int .i64 (zJ r b bn),.int .i64 0)):=fun U=>by
   have c:=RK (show yd r b=true by rw [yd,U8,<-A.out,U,I.out];simp;exact au);rw [<-y,c.1,c.2,<-A.out]
  clear y ag ah ao aq z n V h o ar aJ B;go_enter Tryz.func98,Tryz.ntmps98;go_wp2_with fail
  refine (s.out _ m.out).mono ?_;rintro e d ⟨rfl,q⟩;have l:=zh (za m.out q);have aD:=zh fun X (aI:Below d.heap.size d X)=>R.out X (za q aI);have ab:Zh (∀ i,i<bn->d.cell? ⟨aj,ak+i*2,none⟩=some (.int .i64 (zp b i))/\d.cell? ⟨aj,ak+i*2+1,none⟩=some (.int .i64 (rN b i))):=fun i D=>⟨cell_later l.out (J.out i D).1,cell_later l.out (J.out i D).2⟩;have aA:Zh (∀ i,i<r.pn->d.cell? ⟨ax,ay+i*2,none⟩=some (.int .i64 (zp r.ps i))):=fun i D=>cell_later l.out (af.out i D).1;clear q J af R m s;go_wp2_with fail
  go_loopw [6,7] (fun aM aa wr=>∃ j:Nat,aa=.int .i64 j/\j<=bn/\aM=.int .i64 (zJ r b j)/\zQ (fun i=>Xh r (zp b i) (rN b i)) j=true/\Below d.heap.size d wr) (fun _ aa _=>bn-(intOf aa).toNat)
  case atStart=>exact ⟨0,rfl,by omega,rfl,rfl,Below.refl _ _⟩
  obtain ⟨j,rfl,ap,rfl,am,an⟩:=hrel;have G:=zh am;have f:=zh an;clear am an;by_cases E:j<bn
  ·have aU:(j:Int)<bn:=by omega
   have aF:=cell_later f.out (ab.out j E).1;have aG:=cell_later f.out (ab.out j E).2;obtain ⟨aP,c1,c2,c3,c4⟩:=aD.out wr f.out;have ae:=zh (VR I.out G.out j (Nat.le_refl _));have ad:Zh (j=0->zJ r b j=0):=fun e=>by rw [e];rfl
   obtain ⟨x,F⟩:=qA (zJ r b j);rw [F];rw [F] at ae ad;have aC:=zh F;obtain ⟨aN,W⟩:∃ x,zp b j=x:=⟨_,rfl⟩;obtain ⟨a,Y⟩:∃ x,rN b j=x:=⟨_,rfl⟩;rw [W] at aF;rw [Y] at aG;have N:=zh W;have Q:=zh Y;clear W Y F;cases g:yW aN 0 ((r.pn:Int)-1) with
   | false =>
    have u:=zh (ai.out j E (by rw [Xh,N.out,<-O.out,g];rfl));go_wp2_with fail
    go_quiet ((go_at_call 33;exact Calls.quiet_of_same (zo _ _ _ _)))
    go_wp2;go_ret2
    exact ⟨by rw [u.out];rfl,za l.out (_root_.Go.below_drewN f.out _)⟩
   | true =>
    cases S:yW a 0 48 with
    | false =>
     have u:=zh (ai.out j E (by rw [Xh,Q.out,S];simp));go_wp2_with fail
     go_quiet ((go_at_call 33;exact Calls.quiet_of_same (zo _ _ _ _)))
     go_wp2;go_ret2
     exact ⟨by rw [u.out];rfl,za l.out (_root_.Go.below_drewN f.out _)⟩
    | true =>
     have av:=of_decide_eq_true g;have aw:=of_decide_eq_true S;have H:Zh (zQ (fun i=>Xh r (zp b i) (rN b i)) (j+1)=true):=by
      show zQ (fun i=>Xh r (zp b i) (rN b i)) (j+1)=true;rw [zQ,G.out,Xh,N.out,Q.out,<-O.out,g,S];rfl
     obtain ⟨P,rfl⟩:=Int.eq_ofNat_of_zero_le av.1;have aH:P<r.pn:=by omega
     have aR:(P:Int)<r.pn:=by omega
     obtain ⟨L,C⟩:=qA (zp r.ps P);have al:1<=L/\L<=24:=by
      have:=yh I.out (k:=P) (by have:=O.out;omega);rw [C] at this;exact ⟨this.1,this.2.1⟩
     have aY:wr.cell? ⟨ax,ay+P*2,none⟩=some (.int .i64 L):=by rw [<-C];exact cell_later f.out (aA.out P aH)
     have M:Zh (zJ r b (j+1)=max x (a+L)):=by
      show zJ r b (j+1)=max x (a+L);rw [zJ,aC.out,Z6,lenOf,N.out,Q.out,Int.toNat_natCast,C]
     have aX:IntKind.i64.wrap (a+L)=a+L:=by rw [IntKind.wrap_i64];omega
     have az:=zh al;have aB:=zh aw;clear C av aw al;go_wp2_with fail
     go_quiet ((go_at_call 33;exact Calls.quiet_of_same (zo _ _ _ _)))
     go_wp2_with fail
     go_quiet (fail)
     by_cases Z:(j:Int)=0
     ·have v:Zh (max x (a+L)=a+L):=by
       have:=ae.out;have:=az.out;have:=aB.out;have:=ad.out (by omega);show max x (a+L)=a+L;omega
      have aL:((j:Int)==0)=true:=by simp [Z]
      have aO:=zh Z;clear Z;go_wp2;go_roundw
      case rel=>exact ⟨j+1,by go_num,by omega,by rw [M.out,v.out],H.out,_root_.Go.below_drewN f.out _⟩
      case measure=>simp [intOf];omega
     have aL:((j:Int)==0)=false:=by simp;omega
     by_cases aZ:x<a+L
     ·have v:Zh (max x (a+L)=a+L):=by show max x (a+L)=a+L;omega
      go_wp2;go_roundw
      case rel=>exact ⟨j+1,by go_num,by omega,by rw [M.out,v.out],H.out,_root_.Go.below_drewN f.out _⟩
      case measure=>simp [intOf];omega
     have v:Zh (max x (a+L)=x):=by show max x (a+L)=x;omega
     go_wp2;go_roundw
     case rel=>exact ⟨j+1,by go_num,by omega,by rw [M.out,v.out],H.out,_root_.Go.below_drewN f.out _⟩
     case measure=>simp [intOf];omega
  obtain rfl:j=bn:=by omega
  have u:=zh (aE.out G.out);go_wp2;go_ret2
  exact ⟨by rw [u.out];rfl,za l.out f.out⟩
 ·have c:=Xa (show yd r b=false by rw [yd,decide_eq_false n];rfl);rw [c.1,c.2];have z:decide (z8 false r=0)=false:=decide_eq_false n;rw [z] at s;clear z n c B;go_enter Tryz.func98,Tryz.ntmps98;go_wp2_with fail
  refine (s.out _ m.out).mono ?_;rintro e d ⟨rfl,q⟩;have l:=zh (za m.out q);clear q;go_wp2;go_ret2
  exact ⟨rfl,l.out⟩
theorem V5 (l:QL) (T:Nat->zd) (t:Nat):∀ (a:List Int) (c p:Int),VP l T t c (a++[p])=min (VP l T t c a) (Rz l T p t)
 | [],c,p=>rfl
 | y::a,c,p=>by rw [List.cons_append,VP,V5 l T t a];rfl
theorem Lb {l:QL} {b:BL} (h:Clean l b) {t:Nat} (j:t<48) (zs:List Int) (c:Int):∀ k,k<zs.length->VP l (zM l b b.length) t c (zs.take (k+1))=min c (V9 l b zs t (k+1))/\V9 l b zs t (k+1)<=WW l b t (zs.getD k 0).toNat:=by
 have d:∀ p:Int,Rz l (zM l b b.length) p t=WW l b t p.toNat:=fun p=>by
  unfold Rz WW;rw [((ZT h b.length (Nat.le_refl _) p.toNat).2 t j).1]
 intro k
 induction k with
 | zero =>
  intro a;have e:zs.take (0+1)=[]++[zs.getD 0 0]:=by
   cases zs with
   | nil=>exact absurd a (Nat.lt_irrefl _)
   | cons x xs=>simp
  rw [e,V5,d,V9,if_pos (Or.inl rfl)];exact ⟨rfl,Int.le_refl _⟩
 | succ k ih =>
  intro a;obtain ⟨m,_⟩:=ih (by omega);have e:zs.take (k+1+1)=zs.take (k+1)++[zs.getD (k+1) 0]:=by
   rw [List.take_succ_eq_append_getElem a,List.getD_eq_getElem?_getD,List.getElem?_eq_getElem a];rfl
  rw [e,V5,d,m];obtain ⟨x,f⟩:=qA (WW l b t (zs.getD (k+1) 0).toNat);obtain ⟨y,g⟩:=qA (V9 l b zs t (k+1));have i:V9 l b zs t (k+1+1)=if k+1=0\/x<y then x else y:=by rw [<-f,<-g];rfl
  rw [i,f,g];by_cases c1:x<y
  ·rw [if_pos (Or.inr c1)];omega
  rw [if_neg (by omega)];omega
theorem Js {l:QL} {b:BL} (h:Clean l b) {q:Int} (m:0<=q) (c:q<l.length) {t:Nat} (e:t<48):Wz l b q t=zn (xH l b q) t:=by
 have d:=yY h.tree;have f:=(UU h (zK l q) _ Tf (UC d c)).2 t e;have n:zn [(0,1048576)] t=1048576:=by simp [zn,XJ];rfl
 obtain ⟨zs,a⟩:=qA (zK l q);have w:0<zs.length:=by rw [<-a,Y8 d m c];simp
 have g:=UC d c;rw [a] at f g;obtain ⟨k,o⟩:∃ k,zs.length=k+1:=⟨zs.length-1,by omega⟩;obtain ⟨i,s⟩:=Lb h e zs (zn [(0,1048576)] t) k (by omega);rw [List.take_of_length_le (by omega)] at i;have r:zs.getD k 0∈zs:=by
  rw [List.getD_eq_getElem?_getD,List.getElem?_eq_getElem (show k<zs.length by omega)];exact List.getElem_mem _
 have u:=g _ r;have v:=(Yx h.tree (p:=(zs.getD k 0).toNat) (by omega)).2 t;have x:=((ZT h b.length (Nat.le_refl _) (zs.getD k 0).toNat).2 t e).2.1;have j:zn (xH l b q) t=min (zn [(0,1048576)] t) (V9 l b zs t (k+1)):=by
  unfold xH;rw [a,f,i]
 unfold Wz;rw [j,a,o,n];unfold WW at s;omega
theorem NS {l:QL} {b:BL} (h:Clean l b) {q:Nat} (c:q<l.length):ya (Wz l b q)=ya (zn (xH l b q)) :=
 Wv fun t a=>Js h (by omega) (by omega) a
theorem IA {c n:Int} {l:QL} {b:BL} (h:Sound c n l b):∀ i,i<b.length->0<=(bk b i).id
 | 0,hi=>by have:=(h.rise 0 hi).1;simpa [xd] using this
 | i+1,hi=>by
  have a:=(h.rise (i+1) hi).1;have d:=IA h i (by omega);rw [xd,if_neg (by omega),Nat.add_sub_cancel] at a;omega
theorem J3 (w:World) (c n:Int) (J:Option Addr) (M L:Nat) (l:QL) (ba:Option Addr) (bn bc:Nat) (b:BL) (h:zY w J M L l ba bn bc b) (t:Sound c n l b) :
 zC 56 #[.agg (zS c n J M L ba bn bc)] w fun e w'=>e=.returned (zI 0)/\Below w.heap.size w w':=by
 obtain ⟨S,aA⟩:=qA (w.heap.size);obtain ⟨E,G⟩:=qB (w.alloc (.cells (zS c n J M L ba bn bc) 40));have aa:zL w E:=by rw [G];exact zr _ _
 have al:zj E S (zI c) (zI n) (.slice J M L) (.slice ba bn bc):=by rw [G,<-aA];exact zj.new w _ _ _ _
 have aV:=zh (PO E J M L l ba bn bc b (h.later aa) t.clean);have ar:=zh h;have V:=zh t;have ap:=zh h.2.len;have aY:=zh al;have aS:=zh aa;have aU:=zh G;have bm:=zh aA;have bp:bn<=12:=by have:=t.clean.few;have:=h.2.len;omega
 have br:=h.2.le;have bq:=h.2.capb;have ax:yW c 0 48=true:=by have:=t.c0;have:=t.c48;simp [yW];omega
 have ay:yW n 0 1048576=true:=by have:=t.n0;have:=t.n1;simp [yW];omega
 have av:=zh fun X=>zo c 0 48 X;have aw:=zh fun X=>zo n 0 1048576 X;rw [ax] at av;rw [ay] at aw;obtain ⟨F,c1,c2,c3⟩:=al.cells;rw [G] at F c1 c2 c3;clear al aa G h t ax ay;go_enter Tryz.func56,Tryz.ntmps56;go_wp2_with fail
 rw [<-aU.o];refine aV.o.mono ?_;rintro e aK ⟨rfl,ab⟩;have O:=zh (aY.o.later ab);have an:=zh (za aS.o ab);obtain ⟨a0,a1,a2,a3⟩:=O.o.cells;clear ab F c1 c2 c3;go_wp2_with fail
 refine (av.o _).mono ?_;rintro e bi ⟨rfl,I⟩;rw [I];clear I;go_wp2_with fail
 refine (aw.o _).mono ?_;rintro e bi ⟨rfl,I⟩;rw [I];clear I;go_wp2_with fail
 go_loopw [4] (fun p wr=>∃ k:Nat,p=zI k/\k<=bn/\zL aK wr) (fun p _=>bn-(intOf p).toNat)
 case atStart=>exact ⟨0,rfl,Nat.zero_le _,Below.refl _ _⟩
 case round =>
  obtain ⟨k,rfl,bb,u⟩:=hrel;have N:=zh u;obtain ⟨bC,bD,bE,bF⟩:=(O.o.later u).cells;clear u a0 a1 a2 a3;by_cases H:k<bn
  ·have bd:(k:Int)<bn:=(by omega);have be:¬((k:Int)<0):=(by omega);have z:=ar.o.later (za an.o N.o);obtain ⟨A,B,ae,C⟩:=z.2.cells (by omega);subst ae;have Q:k<b.length:=(by have:=ap.o;omega);have U:=V.o.rise k Q;have aG:=IA V.o k Q;have a4:=(C k H).1;have bf:decide ((bk b k).id<0)=false:=decide_eq_false (by omega);have bg:decide (n<=(bk b k).id)=false:=decide_eq_false (by omega);obtain ⟨x,ai⟩:=qA ((bk b k).id);rw [ai] at a4 bf bg U;by_cases P:k=0
   ·have bh:decide (0<k)=false:=decide_eq_false (by omega);have bl:=zh P;clear z C U aG ai Q P;go_wp2_with fail
    go_quiet (fail)
    go_wp2;go_roundw
    case measure=>simp [intOf];omega
    case rel=>exact ⟨k+1,by go_num,by omega,_root_.Go.below_drewN N.o _⟩
   obtain ⟨j,aE⟩:∃ j,k=j+1:=⟨k-1,by omega⟩;have Y:=(C j (by omega)).1;have aj:=U.1;rw [xd,if_neg P,show k-1=j by omega] at aj;obtain ⟨y,aF⟩:=qA ((bk b j).id);rw [aF] at Y aj;have bt:decide (x<=y)=false:=decide_eq_false (by omega);have bh:decide (0<k)=true:=decide_eq_true (by omega);have bu:IntKind.i64.wrap ((k:Int)-1)=(j:Int):=(by rw [IntKind.wrap_i64];omega);have bv:(j:Int)<bn:=(by omega);have bw:¬((j:Int)<0):=(by omega);have bj:=zh aE;clear z C U aG ai Q aj aF P aE;go_wp2_with fail
   go_quiet (fail)
   go_wp2;go_roundw
   case measure=>simp [intOf];omega
   case rel=>exact ⟨k+1,by go_num,by omega,_root_.Go.below_drewN N.o _⟩
  obtain rfl:bn=k:=by omega
  go_wp2_with fail
  go_loopg [5] bn (fun a8 (p:Value) wr=>∃ (k:Nat),p=zI k/\k<=bn/\a8=bn-k/\zL aK wr)
  case atStart=>exact ⟨0,rfl,Nat.zero_le _,by simp,N.o⟩
  obtain ⟨k,rfl,bb,rfl,u⟩:=hrel;have ao:=zh u;have aq:=zh (za an.o u);by_cases H:k<bn
  ·have bd:(k:Int)<bn:=(by omega);have be:¬((k:Int)<0):=(by omega);have z:=ar.o.later aq.o;obtain ⟨A,B,ae,C⟩:=z.2.cells (by omega);subst ae;obtain ⟨X,aC⟩:=qA (bk b k);obtain ⟨F,c1,c2,c3,c4,c5,W⟩:=C k H;have ag:=z.2.rqs k H;have af:=z.2.bites k H;have Z:=V.o.alive k (by have:=ap.o;omega);rw [aC] at F c1 c2 c3 c4 c5 W ag af Z;obtain ⟨r,R⟩:=qA (yA X);obtain ⟨s,aD⟩:∃ s:Int,(if yd X.rq X.bs=true then (0:Int) else 1)=s:=⟨_,rfl⟩;rw [R] at Z;have aW:Zh (∀ D,zL wr D->zC 98 #[.agg (zR X.rq),.slice X.ba X.bn X.bc] D fun e w'=>e=.returned (.tuple #[zI r,zI s])/\zL D w'):=fun D aB=>by
    have:=SN D X.rq (ag.later aB) X.ba X.bn X.bc X.bs (af.later aB);unfold yA at R;rw [R,aD] at this;exact this
   have bo:¬r<=c:=(by omega);have aM:=zh c1;have aN:=zh c2;have aO:=zh c3;have aP:=zh c4;have aQ:=zh c5;have aR:=zh W;have au:=zh (O.o.later u);obtain ⟨aH,aI,aJ,ak⟩:=au.o.cells;have am:=zh ak;clear z C ag af aC u R aD Z F c1 c2 c3 c4 c5 W;go_upto_region 14 with fail
   go_cut [6,7] (fun p q aL=>∃ aX,aX=aL/\p=zI r/\q=zI s/\zL wr aL)
   case first =>
    refine zV ((Tryz.f56.body.bind fun c=>yi c 14).getD #[]) (by kernel_rfl) [zl (.pointer (zO S 3)),zl (.slice (zO A B) bn bc),zl (zI k),zl (.pointer (zO A (B+k*7))),zl (.pointer (zO A (B+k*7+1))),zl (.agg (zR X.rq)),zl (.pointer (zO S 3)),zl (.slice (zO A B) bn bc),zl (zI k),zl (.pointer (zO A (B+k*7))),zl (.pointer (zO A (B+k*7+6))),zl (.slice X.ba X.bn X.bc),zl (.tuple #[zI r,zI s]),zl (.tuple #[zI r,zI s]),zl (zI r),zl (zI s),zl (zI r),zl (zI s)] [] (by kernel_rfl) (by kernel_rfl) (by kernel_rfl) ?hg ?hstep ?hfin
    case hg =>
     intro g hg v w h;cases hg
    case hstep =>
     refine zc.cons 1 rfl ?_ ?_
     ·intro T w' f i a;have m:T.getD 1 undef=.pointer (zO S 0):=i 1;exact zs (by go_simp) rfl
     refine zc.cons 2 rfl ?_ ?_
     ·intro T w' f i a;have m:T.getD 79 undef=_:=a 0 79;have aZ:=cell_later f am.o;exact zs (by go_simp) rfl
     refine zc.cons 3 rfl ?_ ?_
     ·intro T w' f i a;have m:T.getD 5 undef=zI k:=i 5;exact zs (by go_simp) rfl
     refine zc.cons 4 rfl ?_ ?_
     ·intro T w' f i a;have m:T.getD 80 undef=_:=a 1 80;have az:T.getD 81 undef=_:=a 2 81;exact zs (by go_simp) rfl
     refine zc.cons 5 rfl ?_ ?_
     ·intro T w' f i a;have m:T.getD 82 undef=_:=a 3 82;exact zs (by go_simp) rfl
     refine zc.cons 6 rfl ?_ ?_
     ·intro T w' f i a;have m:T.getD 83 undef=_:=a 4 83;have bI:=cell_later f aM.o;have bJ:=cell_later f aN.o;have bK:=cell_later f aO.o;have bL:=cell_later f aP.o;have bM:=cell_later f aQ.o;exact zs (by go_simp) rfl
     refine zc.cons 7 rfl ?_ ?_
     ·intro T w' f i a;have m:T.getD 1 undef=.pointer (zO S 0):=i 1;exact zs (by go_simp) rfl
     refine zc.cons 8 rfl ?_ ?_
     ·intro T w' f i a;have m:T.getD 85 undef=_:=a 6 85;have aZ:=cell_later f am.o;exact zs (by go_simp) rfl
     refine zc.cons 9 rfl ?_ ?_
     ·intro T w' f i a;have m:T.getD 5 undef=zI k:=i 5;exact zs (by go_simp) rfl
     refine zc.cons 10 rfl ?_ ?_
     ·intro T w' f i a;have m:T.getD 86 undef=_:=a 7 86;have az:T.getD 87 undef=_:=a 8 87;exact zs (by go_simp) rfl
     refine zc.cons 11 rfl ?_ ?_
     ·intro T w' f i a;have m:T.getD 88 undef=_:=a 9 88;exact zs (by go_simp) rfl
     refine zc.cons 12 rfl ?_ ?_
     ·intro T w' f i a;have m:T.getD 89 undef=_:=a 10 89;have bN:=cell_later f aR.o;exact zs (by go_simp) rfl
     refine zc.cons 13 rfl ?_ ?_
     ·intro T w' f i a;have m:T.getD 84 undef=_:=a 5 84;have az:T.getD 90 undef=_:=a 11 90;refine Or.inr ⟨98,#[.agg (zR X.rq),.slice X.ba X.bn X.bc],by go_simp,?_⟩;refine (aW.o w' f).mono ?_;rintro e bG ⟨rfl,a9⟩;exact ⟨_,rfl,rfl,a9⟩
     refine zc.cons 14 rfl ?_ ?_
     ·intro T w' f i a;have m:T.getD 91 undef=_:=a 12 91;exact zs (by go_simp) rfl
     refine zc.cons 15 rfl ?_ ?_
     ·intro T w' f i a;have m:T.getD 78 undef=_:=a 13 78;exact zs (by go_simp) rfl
     refine zc.cons 16 rfl ?_ ?_
     ·intro T w' f i a;have m:T.getD 78 undef=_:=a 13 78;exact zs (by go_simp) rfl
     refine zc.cons 17 rfl ?_ ?_
     ·intro T w' f i a;have m:T.getD 92 undef=_:=a 14 92;exact zs (by go_simp) rfl
     refine zc.cons 18 rfl ?_ ?_
     ·intro T w' f i a;have m:T.getD 93 undef=_:=a 15 93;exact zs (by go_simp) rfl
     exact trivial
    intro T w' f t i a;have Y:T.getD 6 undef=zI r:=a 16 6;have a5:T.getD 7 undef=zI s:=a 17 7;rw [yb (tt 6 [false,false,true,true,true,true,true,true,true,true,true,true,true,true,true,true,true,true,true,true,true,true,true,true,true,true,true,true,true,true,true,true,true,true,true,true,true,true,true,true,true,true,true,true,true,true,true,true,true,true,true,true,true,true,true,true,true,true,true,true,true,true,true,true,true,true,true,true,true,true,true,true,false,false,false,false,false,false,false,false,false,false,false,false,false,false,false,false] 4) (by kernel_rfl) t @i];obtain ⟨us,ah⟩:∃ us:Nat->Value,(fun d=>T.getD d undef)=us:=⟨_,rfl⟩;rw [ah];have a6:us 6=zI r:=(by rw [<-ah];exact Y);have a7:us 7=zI s:=(by rw [<-ah];exact a5);apply_assumption;simp only [xj,tt,List.replicate,List.cons_append,List.nil_append];go_meet;exact ⟨_,rfl,a6,a7,f⟩
   obtain ⟨bH,rfl,rfl,rfl,ad⟩:=hcut;obtain ⟨bx,bz,bA,bB⟩:=(au.o.later ad).cells;have aT:=zh (za ao.o ad);clear ad aH aI aJ ak;go_wp2;go_roundg (bn-(k+1))
   case measure=>omega
   case rel=>exact ⟨k+1,by go_num,by omega,rfl,aT.o⟩
  obtain rfl:bn=k:=by omega
  obtain ⟨aH,aI,aJ,ak⟩:=(O.o.later ao.o).cells;go_wp2;go_ret;exact ⟨rfl,aq.o⟩
theorem Ms {c n:Int} {l:QL} {b:BL} (h:Sound c n l b) {C:Nat} (m:c=C) {t q:Int} {f:Bool} (i:Vu C l b t q f):f=false:=by
 rcases i with ⟨e,_⟩ | ⟨_,T,k,rfl,rfl,j,d,g,a,_⟩
 ·exact e
 have:=h.fits k g T (by omega) d;have a:=of_decide_eq_true a;omega
theorem Zm (w:World) (c n:Int) (d:Option Addr) (i g:Nat) (l:QL) (ba:Option Addr) (bn bc:Nat) (b:BL) (h:zY w d i g l ba bn bc b) (a:Sound c n l b) :
 zC 22 #[.agg (zS c n d i g ba bn bc)] w fun e w'=>e=.returned (zI 0)/\Below w.heap.size w w':=by
 obtain ⟨S,y⟩:=qA (w.heap.size);obtain ⟨j,k⟩:=qB (w.alloc (.cells (zS c n d i g ba bn bc) 40));have p:zL w j:=by rw [k];exact zr _ _
 have s:zj j S (zI c) (zI n) (.slice d i g) (.slice ba bn bc):=by rw [k,<-y];exact zj.new w _ _ _ _
 have G:=zh (J3 j c n d i g l ba bn bc b (h.later p) a);obtain ⟨C,x⟩:∃ C:Nat,c=C:=⟨c.toNat,by have:=a.c0;omega⟩;have O:C<=48:=by have:=a.c48;omega
 have H:=zh fun X (P:zL w X)=>J4 X d i g l ba bn bc b (h.later P) a.clean C O;have D:=zh fun t q f (m:Vu C l b t q f)=>Ms a x m;have I:=zh s;have A:=zh p;have E:=zh k;have R:=zh y;subst x;obtain ⟨v,c1,c2,c3⟩:=s.cells;rw [k] at v c1 c2 c3;clear s p k h a;go_enter Tryz.func22,Tryz.ntmps22;go_wp2_with fail
 rw [<-E.o];refine G.o.mono ?_;rintro e U ⟨rfl,r⟩;have F:=zh (I.o.later r);have u:=zh (za A.o r);obtain ⟨J,L,M,N⟩:=F.o.cells;clear r v c1 c2 c3;go_wp2_with fail
 refine (H.o _ u.o).mono ?_;rintro e V ⟨t,q,f,rfl,m,z⟩;have Q:=D.o t q f m;subst Q;have B:=zh (za u.o z);clear z m J L M N;go_wp2;go_ret;exact ⟨rfl,B.o⟩
theorem Yn {w:World} {o:Option Addr} {f q:Nat} {l:QL} {ba:Option Addr} {bn bc:Nat} {b:BL} (h:zY w o f q l ba bn bc b) (a:Clean l b):Modest1 f l bn b:=by
 have d:=XT h a;have t:=h.2.len;have v:=h.1.len;have u:=a.few;obtain ⟨x,y,z⟩:=S5 h.1 a.tree;refine ⟨d.t0,by omega,fun i c=>⟨?_,d.caps i c⟩,by omega,fun i c=>⟨?_,d.ps i c⟩,fun i c=>⟨?_,d.bs i c⟩⟩
 ·have j:=(Yx a.tree (p:=i) (by omega)).1;have r:=(h.1.caps i c).len;have s:0<(qu l i).runs.length:=j.1;omega
 ·have g:=RunsIn.len (h.2.rqs i c);have m:=(y8 a.tree (a.each i (by omega))).1;obtain ⟨e,k,n⟩:=yk.1 m;have:=of_decide_eq_true (zv.1 e).2.1;omega
 have g:=(h.2.bites i c).len;have m:=(y8 a.tree (a.each i (by omega))).1;obtain ⟨e,k,n⟩:=yk.1 m;have:=YM e;omega
theorem RV {l:QL} {q:Nat} (a:q<l.length) (rs:zd) (i:Nat):qu (yP l q rs) i=if i=q then ⟨(qu l q).name,(qu l q).parent,none,0,0,rs⟩ else qu l i:=Vg _ a i
theorem Ir {l:QL} {q:Nat} {rs:zd} (a:q<l.length) (b:z9 (yP l q rs)=0):zW rs/\∀ t:Nat,0<=zn rs t/\zn rs t<=50:=by
 have h:=Yx b (p:=q) (by rw [Zd];exact a);rw [RV a,if_pos rfl] at h;exact h
end Go.Proofs.YtckpdfkobdgjeaaGreatDoor
