/- Several texts in one: ChgC, ChgD, ChgF, LogL, LogM. -/
import Derived.Test.YtckpdfkobdgjeaaGreatDoorJAll17
import Derived.Test.YtckpdfkobdgjeaaGreatDoorJAll16
import Derived.Test.YtckpdfkobdgjeaaGreatDoorJAll9
namespace Go.Proofs.YtckpdfkobdgjeaaGreatDoor
open Go.RowKit
set_option linter.unusedSectionVars false
variable [Inhabited Mk]
def GP (w w':World) (e:Ending) (c n:Int) (tn:Nat) (l:QL) (b:BL) (q:Nat) (rs:zd):Prop :=
 ∃ (g k1:Nat) (l9:QL) (aa:Option Addr) (k9:Nat) (b9:BL) (mv dr:List Int) (ma:Option Addr) (mk:Nat) (da:Option Addr) (dk:Nat),
  e=.returned (.tuple #[.agg (zS c n (zO g 0) tn k1 aa (List.length b9) k9),.slice ma (List.length mv) mk,.slice da (List.length dr) dk,zI 0])/\zY w' (zO g 0) tn k1 l9 aa b9.length k9 b9/\Sk c (zi (yP l q rs)) (zg b)=(zg b9,mv,dr)/\zG w' w.heap.size (.slice ma mv.length mk) mv/\zG w' w.heap.size (.slice da dr.length dk) dr/\Below w.heap.size w w'
theorem LB.told {w w':World} {e:Ending} {c n:Int} {k:Nat} {l:QL} {b:BL} {q:Nat} {rs:zd} (h:LB w w' e c n k l b q rs) (C:zU c n l b=0) (F:z9 (yP l q rs)=0):GP w w' e c n k l b q rs:=by
 obtain ⟨g,G,d,m,H,p,o,b1,J,mv,dr,I,mk,r,s,x,D,a,j,z,B,E,A,v,t⟩:=h;have i:=yZ C;have y:d.length=l.length:=by
  have f:=congrArg List.length a;rw [yv,yv,Zd] at f;exact f
 have u:Clean d o:=Yh (Wg i.clean j) (by rw [<-xi,a,xi];exact F) y;refine ⟨g,G,d,m,H,p,mv,dr,I,mk,r,s,x,D,?_,A,v,t⟩;rw [<-a,<-j];exact Uw u i.c0 z B E
theorem LM {c n:Int} {l:QL} {b:BL} (h:Sound c n l b) {i:Nat} (e:i<b.length):xy c n l b (bk b i).id=0/\Ux c n l b (bk b i).id=i:=by
 have a:=FG h e;have d:=YJ h;refine ⟨?_,?_⟩
 ·unfold xy;rw [if_pos d,a];rfl
 unfold Ux;rw [if_pos d,a]
theorem Iy {c n:Int} {l:QL} {b:BL} (h:Sound c n l b) {a:Int} (k:∀ x∈b,x.id≠a):xy c n l b a=6:=by
 have g:=YJ h;have f:yS b a=none:=by
  cases e:yS b a with
  | none=>rfl
  | some i =>
   have j:=yz e;exfalso;have d:=j.2.2.1;simp only [beq_iff_eq] at d;exact k _ (yx (by omega)) d
 unfold xy;rw [if_pos g,f];rfl
def PP (c n:Int) (l9:QL) (b9:BL) (mv dr:List Int) (X:Bk):Prop :=
 (mv.count X.id=0/\dr.count X.id=0/\∃ i:Nat,i<b9.length/\xy c n l9 b9 X.id=0/\Ux c n l9 b9 X.id=i/\(bk b9 i).rq.bare=X.rq.bare/\(bk b9 i).bs=X.bs) \/
 (mv.count X.id=1/\dr.count X.id=0/\∃ i:Nat,i<b9.length/\xy c n l9 b9 X.id=0/\Ux c n l9 b9 X.id=i/\(bk b9 i).rq.bare=X.rq.bare/\∀ j,j<(bk b9 i).bs.length->c<=rN (bk b9 i).bs j) \/
 (mv.count X.id=0/\dr.count X.id=1/\xy c n l9 b9 X.id=6)
theorem I1 {c n:Int} {o:QL} {l m:BL} {mv dr:List Int} (h:CutFacts c n o l m mv dr) {X a:Bk} (p:X∈l) (k:a.bare=X.bare):PP c n o m mv dr a:=by
 have zh:a.id=X.id:=show a.bare.id=X.bare.id by rw [k]
 have s:a.rq.bare=X.rq.bare:=show a.bare.rq=X.bare.rq by rw [k]
 have r:a.bs=X.bs:=show a.bare.bs=X.bare.bs by rw [k]
 unfold PP;rw [zh,s,r];rcases h.each X p with ⟨b,d,j⟩ | ⟨b,d,w,q,t,u,v⟩ | ⟨b,d,j⟩
 ·obtain ⟨i,e,rfl⟩:=yT j;obtain ⟨f,g⟩:=LM h.sound e;exact Or.inl ⟨b,d,i,e,f,g,rfl,rfl⟩
 ·obtain ⟨i,e,rfl⟩:=yT q;obtain ⟨f,g⟩:=LM h.sound e;rw [t] at f g;exact Or.inr (Or.inl ⟨b,d,i,e,f,g,by rw [u],v⟩)
 exact Or.inr (Or.inr ⟨b,d,Iy h.sound j⟩)
def GQ (w w':World) (e:Ending) (c n:Int) (tn:Nat) (b:BL):Prop :=
 ∃ (g k1:Nat) (l9:QL) (aa:Option Addr) (k9:Nat) (b9:BL) (mv dr:List Int) (ma:Option Addr) (mk:Nat) (da:Option Addr) (dk:Nat),
  e=.returned (.tuple #[.agg (zS c n (zO g 0) tn k1 aa (List.length b9) k9),.slice ma (List.length mv) mk,.slice da (List.length dr) dk,zI 0])/\zY w' (zO g 0) tn k1 l9 aa b9.length k9 b9/\zU c n l9 b9=0/\b9.length+dr.length=b.length/\(mv.length<=12/\dr.length<=12/\b.length<=12)/\(∀ k,k<b.length->PP c n l9 b9 mv dr (bk b k))/\IntsIn w' ma mv.length mk mv/\IntsIn w' da dr.length dk dr/\Below w.heap.size w w'
theorem TY {w:World} {B:Nat} {a:Option Addr} {m k:Nat} {l:List Int} (h:zG w B (.slice a m k) l):IntsIn w a l.length k l:=by
 obtain ⟨c,d,e,b⟩:=zG.parts h;simp only [Value.slice.injEq] at e;obtain ⟨rfl,_,rfl⟩:=e;exact b
theorem LB.true {w w':World} {e:Ending} {c n:Int} {u:Nat} {l:QL} {b:BL} {q:Nat} {rs:zd} (h:LB w w' e c n u l b q rs) (N:zU c n l b=0) (Q:z9 (yP l q rs)=0):GQ w w' e c n u b:=by
 obtain ⟨g,R,s,v,S,y,a,b1,aa,mv,dr,U,mk,z,A,E,O,t,o,J,M,P,L,D,B⟩:=h;have d:=yZ N;have I:s.length=l.length:=by
  have m:=congrArg List.length t;rw [yv,yv,Zd] at m;exact m
 have C:Clean s a:=Yh (Wg d.clean o) (by rw [<-xi,t,xi];exact Q) I;obtain ⟨ae,V,W⟩:=X8 d;have ab:a.length=b.length:=O1 o;have f:∀ i,(bk a i).bare=(bk b i).bare:=LI o;have X:Up a:=by
  unfold Up;rw [List.pairwise_iff_getElem];intro i j p H G;have m:=YG d (j:=j) (by omega) G;rw [<-wI p,<-wI H,show (bk a i).id=(bk a i).bare.id from rfl,show (bk a j).id=(bk a j).bare.id from rfl,f,f];exact m
 have Y:∀ x∈a,0<=x.id/\x.id<n:=by
  intro x r;obtain ⟨i,p,rfl⟩:=yT r;rw [show (bk a i).id=(bk a i).bare.id from rfl,f];exact V (bk b i) (yx (by omega))
 have Z:∀ x∈a,c<yA x:=by
  intro x r;obtain ⟨i,p,rfl⟩:=yT r;rw [<-Wm,f,Wm];exact W _ (yx (by omega))
 have F:=Q5 (n:=n) C d.c0 d.c48 d.n0 d.n1 X Y Z J M P;exact ⟨g,R,s,v,S,y,mv,dr,U,mk,z,A,E,O,YJ F.sound,by have:=F.len;omega,⟨F.few.1,F.few.2,d.clean.few⟩,fun k ad=>I1 F (yx (show k<a.length by omega)) (f k).symm,TY L,TY D,B⟩
structure St where
 c:Int
 n:Int
 l:QL
 b:BL
theorem PR (l:QL):zi (zi l)=zi l:=by unfold zi;rw [List.map_map];rfl
theorem MF (b:BL):zg (zg b)=zg b:=by unfold zg;rw [List.map_map];rfl
def ZO (s:St) (x:Ac):Int:=if x.kind=1 then Zp s.c s.n s.l s.b x.rq else if x.kind=2 then xy s.c s.n s.l s.b x.n else if x.kind=3 then we s.c s.n s.l s.b x.n else if x.kind=4 then ZG s.c s.n s.l s.b x.n x.cs else 7
def YR (s:St) (x:Ac):St :=
 if x.kind=1 then ⟨s.c,s.n+1,s.l,s.b++[⟨s.n,x.rq.bare,none,0,0,(yU s.l s.b x.rq).1⟩]⟩
 else if x.kind=2 then ⟨s.c,s.n,s.l,wU s.b ((yS s.b x.n).getD 0)⟩
 else if x.kind=3 then ⟨x.n,s.n,s.l,xU s.b x.n⟩
 else ⟨s.c,s.n,zi (yP s.l x.n.toNat x.cs),(Sk s.c (zi (yP s.l x.n.toNat x.cs)) s.b).1⟩
theorem WM (b:BL) (a:Int):yS (zg b) a=yS b a:=by
 unfold yS;rw [zF]
 congr 1
 funext i
 rw [xp];rfl
theorem Lp (c n:Int) (l:QL) (b:BL) (r:Rq):wW c n (zi l) (zg b) r.bare=wW c n l b r:=by
 unfold wW;rw [xQ,S8];rfl
theorem JB (c n:Int) (l:QL) (b:BL) (r:Rq):Zp c n (zi l) (zg b) r.bare=Zp c n l b r:=by
 unfold Zp;rw [Lp,zF,XF]
theorem MS (c n:Int) (l:QL) (b:BL) (a:Int):xy c n (zi l) (zg b) a=xy c n l b a:=by
 unfold xy;rw [xQ,WM]
theorem Lw (c n:Int) (l:QL) (b:BL) (t:Int):we c n (zi l) (zg b) t=we c n l b t:=by
 unfold we;rw [xQ]
theorem VV (l:QL) (q:Nat) (rs:zd):zi (yP (zi l) q rs)=zi (yP l q rs):=U9 (PR l) q none 0 0 rs
theorem Kr (l:QL) (q:Nat) (rs:zd):z9 (yP (zi l) q rs)=z9 (yP l q rs):=by rw [<-xi,VV,xi]
theorem Kq (c n:Int) (l:QL) (b:BL) (q:Int) (rs:zd):ZG c n (zi l) (zg b) q rs=ZG c n l b q rs:=by
 unfold ZG;rw [xQ,yv,Kr]
theorem Nc (c n:Int) (l:QL) (b:BL) (x:Ac):ZO ⟨c,n,zi l,zg b⟩ x.bare=ZO ⟨c,n,l,b⟩ x:=by
 unfold ZO;show (if x.kind=1 then Zp c n (zi l) (zg b) x.rq.bare else if x.kind=2 then xy c n (zi l) (zg b) x.n else if x.kind=3 then we c n (zi l) (zg b) x.n else if x.kind=4 then ZG c n (zi l) (zg b) x.n x.cs else 7)=_;rw [JB,MS,Lw,Kq]
theorem RL {l:QL} {b:BL} {t:Int}:∀ {n q:Nat},Wy l b t n q=none->∀ i,q<=i->i<q+n->yw l b t i=false
 | 0,q,_,i,h1,h2=>by omega
 | n+1,q,h,i,h1,h2=>by
  rw [Wy] at h;by_cases e:yw l b t q=true
  ·rw [if_pos e] at h;cases h
  rw [if_neg e] at h;by_cases a:i=q
  ·subst a;simpa using e
  exact RL h i (by omega) (by omega)
theorem Pi {l:QL} {b:BL} {t:Int}:∀ {n q k:Nat},Wy l b t n q=some k->q<=k/\k<q+n/\yw l b t k=true/\∀ i,q<=i->i<k->yw l b t i=false
 | 0,q,k,h=>by cases h
 | n+1,q,k,h=>by
  rw [Wy] at h;by_cases e:yw l b t q=true
  ·rw [if_pos e] at h;cases h
   exact ⟨Nat.le_refl _,by omega,e,fun i g a=>by omega⟩
  rw [if_neg e] at h;obtain ⟨j,m,c,d⟩:=Pi h;refine ⟨by omega,by omega,c,fun i g a=>?_⟩;by_cases f:i=q
  ·subst f;simpa using e
  exact d i (by omega) a
theorem NH {l:QL} {b:BL}:∀ {n:Nat} {t:Int},Vc l b n t=none->∀ u,t<=u->u<t+n->∀ i,i<l.length->yw l b u i=false
 | 0,t,_,u,h1,h2,i,_=>by omega
 | n+1,t,h,u,h1,h2,i,hi=>by
  rw [Vc] at h;cases a:Wy l b t l.length 0 with
  | some q=>rw [a] at h;cases h
  | none =>
   rw [a] at h;by_cases e:u=t
   ·subst e;exact RL a i (Nat.zero_le _) (by omega)
   exact NH h u (by omega) (by omega) i hi
theorem Pj {l:QL} {b:BL}:∀ {n:Nat} {t s:Int} {k:Nat},Vc l b n t=some (s,k)->t<=s/\s<t+n/\k<l.length/\yw l b s k=true/\(∀ i,i<k->yw l b s i=false)/\∀ u,t<=u->u<s->∀ i,i<l.length->yw l b u i=false
 | 0,t,s,k,h=>by cases h
 | n+1,t,s,k,h=>by
  rw [Vc] at h;cases a:Wy l b t l.length 0 with
  | some q =>
   rw [a] at h;cases h
   obtain ⟨_,j,c,d⟩:=Pi a;exact ⟨Int.le_refl _,by omega,by omega,c,fun i f=>d i (Nat.zero_le _) f,fun u p g=>by omega⟩
  | none =>
   rw [a] at h;obtain ⟨r,j,c,d,m,o⟩:=Pj h;refine ⟨by omega,by omega,c,d,m,fun u p g i f=>?_⟩;by_cases e:u=t
   ·subst e;exact RL a i (Nat.zero_le _) (by omega)
   exact o u (by omega) g i f
theorem LS {c:Int} {l:QL} {f:BL} (i:Clean l f) (g:0<=c) (B:c<=48):∀ (m:Nat) {b a:BL},Lit c l f b a->b.length=m->∃ b1 x,Lit c l f b1 x/\∀ u,c<=u->u<48->∀ q,q<l.length->yw l b1 u q=false:=by
 intro m
 induction m with
 | zero =>
  intro b a h k;refine ⟨b,a,h,fun u d e q j=>?_⟩;have z:b=[]:=List.length_eq_zero_iff.1 k;subst z;exact UM (h.clean i g).1 j (by omega) e
 | succ m ih =>
  intro b a h k;cases n:Vc l b (48-c).toNat c with
  | none=>exact ⟨b,a,h,fun u d e q j=>NH n u d (by omega) q j⟩
  | some p =>
   obtain ⟨t,q⟩:=p;obtain ⟨d,e,r,s,v,w⟩:=Pj n;have o:=Lit.step h (Or.inr ⟨rfl,d,by omega,q,r,rfl,s,v,w⟩);refine ih o ?_;have A:=(h.clean i g).2.2.2;have y:=(o.clean i g).2.2.2;rw [Z7] at y;omega
theorem On (c:Int) (l:QL) (b1 a:BL):∀ j,j<=a.length->∃ b mv dr,Stl c l b1 a j b mv dr
 | 0,_=>⟨_,_,_,Stl.start⟩
 | j+1,h=>by
  obtain ⟨b,mv,dr,e⟩:=On c l b1 a j (by omega);by_cases d:(y9 c l b (bk a j)).2=true
  ·exact ⟨_,_,_,Stl.moved (fa:=none) (fm:=0) (fc:=0) e (by omega) d⟩
  exact ⟨_,_,_,Stl.dropped e (by omega) (by simpa using d)⟩
theorem Is {c n:Int} {l:QL} {b:BL} {q:Int} {rs:zd} (h:ZG c n l b q rs=0):zU c n l b=0/\0<=q/\q<l.length/\z9 (yP l q.toNat rs)=0:=by
 unfold ZG at h;by_cases a:zU c n l b=0
 ·rw [if_pos a] at h;by_cases d:0<=q/\q<l.length
  ·rw [if_pos d] at h;exact ⟨a,d.1,d.2,h⟩
  rw [if_neg d] at h;omega
 rw [if_neg a] at h;exact absurd h a
theorem MN {c n:Int} {l:QL} {b:BL} {q:Int} {rs:zd} (h:ZG c n l b q rs=0):zU c n (zi (yP l q.toNat rs)) (Sk c (zi (yP l q.toNat rs)) (zg b)).1=0:=by
 obtain ⟨j,s,t,k⟩:=Is h;have a:=yZ j;have d:Clean (yP l q.toNat rs) b:=Yh a.clean k (Zd ..);obtain ⟨m,o,p⟩:=X8 a;obtain ⟨b1,e,f,g⟩:=LS d a.c0 a.c48 b.length Lit.start rfl;obtain ⟨r,mv,dr,i⟩:=On c (yP l q.toNat rs) b1 e e.length (Nat.le_refl _);have F:=Q5 (n:=n) d a.c0 a.c48 a.n0 a.n1 m o p f g i;rw [Uw d a.c0 f g i,xQ];exact YJ F.sound
theorem QT {c n:Int} {l:QL} {b:BL} {d:Int} (h:xy c n l b d=0):zU c n l b=0/\∃ i,yS b d=some i/\i<b.length:=by
 unfold xy at h;by_cases a:zU c n l b=0
 ·rw [if_pos a] at h;cases e:yS b d with
  | none=>rw [e] at h;simp at h
  | some i=>exact ⟨a,i,rfl,by have:=(yz e).2.1;omega⟩
 rw [if_neg a] at h;exact absurd h a
theorem Vz (b:BL) (x:Bk):zg (b++[x])=zg b++[x.bare]:=by unfold zg;rw [List.map_append];rfl
theorem Ku {s:St} {x:Ac} (f:zg s.b=s.b) (h:ZO s x=0):zU (YR s x).c (YR s x).n (YR s x).l (YR s x).b=0:=by
 obtain ⟨c,n,l,b⟩:=s;simp only at f;unfold ZO at h;unfold YR;by_cases a:x.kind=1
 ·rw [if_pos a] at h;rw [if_pos a];simp only at h ⊢;rw [<-YJ (PS h)];refine Lg rfl ?_;rw [Vz,Vz];rfl
 rw [if_neg a] at h;rw [if_neg a];by_cases d:x.kind=2
 ·rw [if_pos d] at h;rw [if_pos d];simp only at h ⊢;obtain ⟨m,i,j,k⟩:=QT h;rw [j];exact YJ (QH (yZ m) k)
 rw [if_neg d] at h;rw [if_neg d];by_cases e:x.kind=3
 ·rw [if_pos e] at h;rw [if_pos e];exact YJ (Lx h)
 rw [if_neg e] at h;rw [if_neg e];by_cases g:x.kind=4
 ·rw [if_pos g] at h;simp only at h ⊢;have:=MN h;rw [f] at this;exact this
 rw [if_neg g] at h;omega
theorem Iv {s:St} {x:Ac} (f:zi s.l=s.l) (a:zg s.b=s.b) (h:ZO s x=0):zi (YR s x).l=(YR s x).l/\zg (YR s x).b=(YR s x).b:=by
 obtain ⟨c,n,l,b⟩:=s;simp only at f a;unfold ZO at h;unfold YR;by_cases g:x.kind=1
 ·rw [if_pos g];refine ⟨f,?_⟩;simp only;rw [Vz,a];rfl
 rw [if_neg g] at h;rw [if_neg g];by_cases i:x.kind=2
 ·rw [if_pos i];refine ⟨f,?_⟩;simp only;rw [Xn,a]
 rw [if_neg i] at h;rw [if_neg i];by_cases j:x.kind=3
 ·rw [if_pos j];refine ⟨f,?_⟩;simp only;rw [Xu,a]
 rw [if_neg j] at h;rw [if_neg j];by_cases o:x.kind=4
 ·rw [if_pos o] at h;refine ⟨PR _,?_⟩;simp only at h ⊢;obtain ⟨r,w,y,u⟩:=Is h;have d:=yZ r;have m:Clean (yP l x.n.toNat x.cs) b:=Yh d.clean u (Zd ..);obtain ⟨b1,k,p,q⟩:=LS m d.c0 d.c48 b.length Lit.start rfl;obtain ⟨v,mv,dr,t⟩:=On c (yP l x.n.toNat x.cs) b1 k k.length (Nat.le_refl _);have e:=Uw m d.c0 p q t;rw [a] at e;rw [e];exact MF _
 rw [if_neg o] at h;omega
def VN (s:St) (x:Ac):St:=if ZO s x=0 then YR s x else s
def Yd (s:St) (l:List Ac):St:=l.foldl VN s
theorem Pt (s:St) (l:List Ac) (x:Ac):Yd s (l++[x])=VN (Yd s l) x:=by unfold Yd;rw [List.foldl_append];rfl
structure GoodSt (s:St):Prop where
 q:zi s.l=s.l
 b:zg s.b=s.b
 e:zU s.c s.n s.l s.b=0
theorem GoodSt.done {s:St} (h:GoodSt s) (x:Ac):GoodSt (VN s x):=by
 unfold VN;by_cases e:ZO s x=0
 ·rw [if_pos e];have:=Iv h.q h.b e;exact ⟨this.1,this.2,Ku h.b e⟩
 rw [if_neg e];exact h
def X9 (w:World) (B:Nat) (E:Int) (s:St) (c n:Int) (ta:Option Addr) (tn tc:Nat) (ba:Option Addr) (bn bc:Nat):Prop :=
 (E≠0/\c=0/\n=0/\ta=none/\tn=0/\tc=0/\ba=none/\bn=0/\bc=0)\/(E=0/\∃ l b,zY w ta tn tc l ba bn bc b/\c=s.c/\n=s.n/\zi l=s.l/\zg b=s.b/\NewSt B ta tn l ba bn b)
theorem X9.later {w w':World} {B:Nat} {a:Int} {s:St} {c n:Int} {i:Option Addr} {k j:Nat} {d:Option Addr} {g f:Nat} (h:X9 w B a s c n i k j d g f) (m:Below w.heap.size w w'):X9 w' B a s c n i k j d g f:=by
 rcases h with h | ⟨e,l,b,o,r⟩
 ·exact Or.inl h
 exact Or.inr ⟨e,l,b,o.later m,r⟩
theorem QsIn.keep {w w':World} {a:Option Addr} {n k:Nat} {l:QL} (h:QsIn w a n k l) (m:0<n->∀ g c,a=zO g c->w'.heap[g]?=w.heap[g]?) (p:∀ i,i<n->0<(qu l i).cn->∀ g c,(qu l i).ca=zO g c->w'.heap[g]?=w.heap[g]?):QsIn w' a n k l:=by
 refine ⟨h.len,h.le,h.capb,fun f=>?_,fun i d=>(h.caps i d).of_away (p i d),h.names,fun f g c e=>(h.thaw f g c e).of_eq (m f g c e)⟩;obtain ⟨b,c,o,j⟩:=h.cells f;have e:=m f b c o;exact ⟨b,c,o,fun i d=>⟨(World.cell?_of_block (w:=w) (a:=(zA b (c+i*3))) e).trans (j i d).1,(World.cell?_of_block (w:=w) (a:=(zA b (c+i*3+1))) e).trans (j i d).2.1,(World.cell?_of_block (w:=w) (a:=(zA b (c+i*3+2))) e).trans (j i d).2.2⟩⟩
theorem BksIn.keep {w w':World} {a:Option Addr} {n j:Nat} {l:BL} (h:BksIn w a n j l) (k:0<n->∀ g c,a=zO g c->w'.heap[g]?=w.heap[g]?) (q:∀ i,i<n->0<(bk l i).rq.pn->∀ g c,(bk l i).rq.pa=zO g c->w'.heap[g]?=w.heap[g]?) (r:∀ i,i<n->0<(bk l i).bn->∀ g c,(bk l i).ba=zO g c->w'.heap[g]?=w.heap[g]?):BksIn w' a n j l:=by
 refine ⟨h.len,h.le,h.capb,fun f=>?_,fun i d=>RunsIn.of_away (h.rqs i d) (q i d),fun i d=>(h.bites i d).of_away (r i d),fun f g c e=>(h.thaw f g c e).of_eq (k f g c e)⟩;obtain ⟨b,c,m,s⟩:=h.cells f;have e:=k f b c m;refine ⟨b,c,m,fun i d=>?_⟩;obtain ⟨o,c1,c2,c3,c4,c5,p⟩:=s i d;exact ⟨(World.cell?_of_block (w:=w) (a:=(zA b (c+i*7))) e).trans o,(World.cell?_of_block (w:=w) (a:=(zA b (c+i*7+1))) e).trans c1,(World.cell?_of_block (w:=w) (a:=(zA b (c+i*7+2))) e).trans c2,(World.cell?_of_block (w:=w) (a:=(zA b (c+i*7+3))) e).trans c3,(World.cell?_of_block (w:=w) (a:=(zA b (c+i*7+4))) e).trans c4,(World.cell?_of_block (w:=w) (a:=(zA b (c+i*7+5))) e).trans c5,(World.cell?_of_block (w:=w) (a:=(zA b (c+i*7+6))) e).trans p⟩
theorem zY.keep {w w':World} {B:Nat} {o:Option Addr} {p r:Nat} {l:QL} {m:Option Addr} {n q:Nat} {b:BL} (h:zY w o p r l m n q b) (d:NewSt B o p l m n b) (j:∀ k,B<=k->w'.heap[k]?=w.heap[k]?):zY w' o p r l m n q b :=
 ⟨h.1.keep (fun a g c e=>j g (d.qs a g c e)) (fun i f a g c e=>j g (d.caps i f a g c e)),h.2.keep (fun a g c e=>j g (d.bks a g c e)) (fun i f a g c e=>j g (d.ps i f a g c e)) (fun i f a g c e=>j g (d.bs i f a g c e))⟩
theorem X9.keep {w w':World} {B:Nat} {a:Int} {s:St} {c n:Int} {j:Option Addr} {o m:Nat} {d:Option Addr} {g f:Nat} (h:X9 w B a s c n j o m d g f) (p:∀ k,B<=k->w'.heap[k]?=w.heap[k]?):X9 w' B a s c n j o m d g f:=by
 rcases h with h | ⟨e,l,b,q,r,t,u,v,i⟩
 ·exact Or.inl h
 exact Or.inr ⟨e,l,b,q.keep i p,r,t,u,v,i⟩
theorem X9.mono {w:World} {B a:Nat} {d:Int} {s:St} {c n:Int} {j:Option Addr} {m k:Nat} {f:Option Addr} {i g:Nat} (h:X9 w B d s c n j m k f i g) (o:a<=B):X9 w a d s c n j m k f i g:=by
 rcases h with h | ⟨e,l,b,q,r,t,u,v,p⟩
 ·exact Or.inl h
 exact Or.inr ⟨e,l,b,q,r,t,u,v,p.mono o⟩
theorem Mx (w:World) (c n:Int) (m:Option Addr) (p o:Nat) (l:QL) (j:Option Addr) (d k:Nat) (b:BL) (h:zY w m p o l j d k b) (r:Rq) (q:zH w r) :
 zC 52 #[.agg (zS c n m p o j d k),.agg #[zI r.queue,zI r.fr,zI r.un,zI r.kind,.slice r.pa r.pn r.pc]] w fun e w'=>∃ x y z B A t v u i,e=.returned (.tuple #[.agg (zS x y z B A t v u),zI i,zI (Zp c n l b r)])/\X9 w' w.heap.size (Zp c n l b r) ⟨c,n+1,zi l,zg b++[⟨n,r.bare,none,0,0,(yU l b r).1⟩]⟩ x y z B A t v u/\Below w.heap.size w w':=by
 have L:=h.2.len;by_cases a:wW c n l b r=0
 ·by_cases D:12<=d\/1048576<=n
  ·have e:Zp c n l b r=2:=(by unfold Zp;rw [if_pos a,if_pos (by omega)]);refine (OU w c n m p o l j d k b h r q a D).mono ?_;rintro _ w' ⟨rfl,f⟩;exact ⟨_,_,_,_,_,_,_,_,_,by rw [e],Or.inl ⟨by rw [e];decide,rfl,rfl,rfl,rfl,rfl,rfl,rfl,rfl⟩,f⟩
  by_cases s:(yU l b r).2=true
  ·have e:Zp c n l b r=0:=(by unfold Zp;rw [if_pos a,if_neg (by omega),if_pos s]);refine (Mw w c n m p o l j d k b h r q e).mono ?_;rintro _ w' ⟨g,M,I,J,N,C,rfl,H,F,E,f,G⟩;exact ⟨_,_,_,_,_,_,_,_,_,by rw [e],Or.inr ⟨e,I,C,H,rfl,rfl,F,by rw [E,Vz];rfl,G⟩,f⟩
  have e:Zp c n l b r=8:=by unfold Zp;rw [if_pos a,if_neg (by omega),if_neg s]
  refine (OT w c n m p o l j d k b h r q a (by omega) (by omega) (by simpa using s)).mono ?_;rintro _ w' ⟨rfl,f⟩;exact ⟨_,_,_,_,_,_,_,_,_,by rw [e],Or.inl ⟨by rw [e];decide,rfl,rfl,rfl,rfl,rfl,rfl,rfl,rfl⟩,f⟩
 ·have e:Zp c n l b r=wW c n l b r:=by unfold Zp;rw [if_neg a]
  refine (PQ w c n m p o l j d k b h r q a).mono ?_;rintro _ w' ⟨rfl,f⟩;exact ⟨_,_,_,_,_,_,_,_,_,by rw [e],Or.inl ⟨by rw [e];exact a,rfl,rfl,rfl,rfl,rfl,rfl,rfl,rfl⟩,f⟩
theorem Mb (w:World) (c n:Int) (k:Option Addr) (o m:Nat) (l:QL) (d:Option Addr) (j f:Nat) (b:BL) (h:zY w k o m l d j f b) (a:Int) :
 zC 53 #[.agg (zS c n k o m d j f),zI a] w fun e w'=>∃ t x y A z q s r,e=.returned (.tuple #[.agg (zS t x y A z q s r),zI (xy c n l b a)])/\X9 w' w.heap.size (xy c n l b a) ⟨c,n,zi l,wU (zg b) ((yS b a).getD 0)⟩ t x y A z q s r/\Below w.heap.size w w':=by
 by_cases e:xy c n l b a=0
 ·obtain ⟨F,i,u,J⟩:=QT e;refine (Ma w c n k o m l d j f b h a F i u).mono ?_;rintro _ w' ⟨v,rfl,g,L,H,I,M,B,rfl,G,D,C,p,E⟩;exact ⟨_,_,_,_,_,_,_,_,by rw [e],Or.inr ⟨e,H,B,G,rfl,rfl,D,by rw [C,u];exact Xn b i,E⟩,p⟩
 ·refine (PA w c n k o m l d j f b h a e).mono ?_;rintro _ w' ⟨rfl,p⟩;exact ⟨_,_,_,_,_,_,_,_,rfl,Or.inl ⟨e,rfl,rfl,rfl,rfl,rfl,rfl,rfl,rfl⟩,p⟩
theorem Ib (w:World) (c n:Int) (j:Option Addr) (m k:Nat) (l:QL) (a:Option Addr) (f d:Nat) (b:BL) (h:zY w j m k l a f d b) (t:Int) :
 zC 54 #[.agg (zS c n j m k a f d),zI t] w fun e w'=>∃ s u x z y p r q i,e=.returned (.tuple #[.agg (zS s u x z y p r q),zI i,zI (we c n l b t)])/\X9 w' w.heap.size (we c n l b t) ⟨t,n,zi l,xU (zg b) t⟩ s u x z y p r q/\Below w.heap.size w w':=by
 by_cases e:we c n l b t=0
 ·refine (Ia w c n j m k l a f d b h t e).mono ?_;rintro _ w' ⟨v,rfl,g,H,F,G,I,A,rfl,E,C,B,o,D⟩;exact ⟨_,_,_,_,_,_,_,_,_,by rw [e],Or.inr ⟨e,F,A,E,rfl,rfl,C,by rw [B];exact Xu b t,D⟩,o⟩
 ·refine (My w c n j m k l a f d b h t e).mono ?_;rintro _ w' ⟨rfl,o⟩;exact ⟨_,_,_,_,_,_,_,_,_,rfl,Or.inl ⟨e,rfl,rfl,rfl,rfl,rfl,rfl,rfl,rfl⟩,o⟩
theorem Me (w:World) (c n:Int) (s:Option Addr) (i t:Nat) (l:QL) (j:Option Addr) (m k:Nat) (b:BL) (h:zY w s i t l j m k b) (q:Int) (p:Option Addr) (f r:Nat) (rs:zd) (Y:RunsIn w p f r rs) (Z:f<=1048576) :
 zC 55 #[.agg (zS c n s i t j m k),zI q,.slice p f r] w fun e w'=>∃ B G H J I y A z ad ae af N O P,e=.returned (.tuple #[.agg (zS B G H J I y A z),.slice ad ae af,.slice N O P,zI (ZG c n l b q rs)])/\X9 w' w.heap.size (ZG c n l b q rs) ⟨c,n,zi (yP l q.toNat rs),(Sk c (zi (yP l q.toNat rs)) (zg b)).1⟩ B G H J I y A z/\Below w.heap.size w w':=by
 have am:=h.1.len;by_cases d:zU c n l b=0
 ·by_cases F:0<=q/\q<i
  ·have e:ZG c n l b q rs=z9 (yP l q.toNat rs):=(by unfold ZG;rw [if_pos d,if_pos (by omega)]);have x:=Md w c n s i t l j m k b h q.toNat (by omega) p f r rs Y Z d;rw [Int.toNat_of_nonneg F.1] at x;refine x.mono ?_;rintro _ w' (⟨a,rfl,Q⟩ | ⟨a,o⟩)
   ·exact ⟨_,_,_,_,_,_,_,_,_,_,_,_,_,_,by rw [e],Or.inl ⟨by rw [e];exact a,rfl,rfl,rfl,rfl,rfl,rfl,rfl,rfl⟩,Q⟩
   obtain ⟨g,an,v,ag,ao,M,L,b1,ah,mv,dr,ap,mk,ai,aj,rfl,aa,u,E,V,X,ab,al,ak,R,W⟩:=o;have D:=yZ d;have U:v.length=l.length:=by
    have a:=congrArg List.length u;rw [yv,yv,Zd] at a;exact a
   have S:Clean v L:=Yh (Wg D.clean E) (by rw [<-xi,u,xi];exact a) U;have C:=Uw S D.c0 V X ab;rw [u,E] at C;exact ⟨_,_,_,_,_,_,_,_,_,_,_,_,_,_,by rw [e,a],Or.inr ⟨by rw [e];exact a,v,M,aa,rfl,rfl,u,by rw [C],W⟩,R⟩
  have e:ZG c n l b q rs=6:=by unfold ZG;rw [if_pos d,if_neg (by omega)]
  refine (OD w c n s i t l j m k b h q p f r d F).mono ?_;rintro _ w' ⟨rfl,o⟩;exact ⟨_,_,_,_,_,_,_,_,_,_,_,_,_,_,by rw [e],Or.inl ⟨by rw [e];decide,rfl,rfl,rfl,rfl,rfl,rfl,rfl,rfl⟩,o⟩
 ·have e:ZG c n l b q rs=zU c n l b:=by unfold ZG;rw [if_neg d]
  refine (PD w c n s i t l j m k b h q p f r d).mono ?_;rintro _ w' ⟨rfl,o⟩;exact ⟨_,_,_,_,_,_,_,_,_,_,_,_,_,_,by rw [e],Or.inl ⟨by rw [e];exact d,rfl,rfl,rfl,rfl,rfl,rfl,rfl,rfl⟩,o⟩
end Go.Proofs.YtckpdfkobdgjeaaGreatDoor
