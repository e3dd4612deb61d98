/- Several texts in one: ChgB, ChgC, ChgD, ChgF, LogL, LogM. -/
import Derived.Test.YtckpdfkobdgjeaaGreatDoorHAll19
import Derived.Test.YtckpdfkobdgjeaaGreatDoorHSame
import Derived.Test.YtckpdfkobdgjeaaGreatDoorHLogK
import Derived.Test.YtckpdfkobdgjeaaGreatDoorHAll10
namespace Go.Proofs.YtckpdfkobdgjeaaGreatDoor
open Go.RowKit
theorem Yp (l:QL) (b:BL) (t:Int) (q:Nat):yw (zi l) (zg b) t q=yw l b t q:=by
 unfold yw UA;rw [zF,YZ,Z8];rfl
theorem NZ (X:Bk) (t:Int):Yb X.bare t=Yb X t:=by kernel_rfl
theorem QF (l:QL) (p q:Int):yG (zi l) p q=yG l p q:=by
 unfold yG;rw [WX]
theorem M2 (l:QL) (b:BL) (t q:Int) (i:Nat):Zz (zi l) (zg b) t q i=Zz l b t q i:=by
 unfold Zz;rw [xp,NZ];show (yG (zi l) (bk b i).rq.queue q&&_)=_;rw [QF]
theorem VZ (l:QL) (b:BL) (t q:Int):∀ n,wC (zi l) (zg b) t q n=wC l b t q n
 | 0=>rfl
 | n+1=>by rw [wC,wC,M2,VZ l b t q n]
theorem Po (b:BL) (a:Int):∀ n,XY (zg b) a n=XY b a n
 | 0=>rfl
 | n+1=>by
  rw [XY,XY,Po b a n,xp];rfl
theorem VE (b:BL) (x:Bk):zg (Zj b x)=Zj (zg b) x.bare:=by
 unfold Zj yL;show (List.map Bk.bare _)=_;rw [zF,show (x.bare).id=x.id from rfl,Po];simp only [zg,List.map_append,List.map_cons,List.map_take,List.map_drop]
theorem Xn (b:BL) (i:Nat):zg (wU b i)=wU (zg b) i:=by
 unfold wU;simp only [zg,List.map_append,List.map_take,List.map_drop]
theorem Qz {c:Int} {l:QL} {b:BL} {n:Nat} {t q:Int} {f:Bool} (h:XO c l b n t q f):XO c (zi l) (zg b) n t q f:=by
 rcases h with ⟨e,g,j,m⟩ | ⟨e,g,j,k,m,r,s,u,v⟩
 ·exact Or.inl ⟨e,g,j,fun p a d k w=>by rw [Yp];exact m p a d k w⟩
 exact Or.inr ⟨e,g,j,k,m,r,by rw [Yp];exact s,fun i o=>by rw [Yp];exact u i o,fun p a d i o=>by rw [Yp];exact v p a d i o⟩
theorem Lit.bare {c:Int} {l:QL} {d b a:BL} (h:Lit c l d b a):Lit c (zi l) (zg d) (zg b) (zg a):=by
 induction h with
 | start=>exact Lit.start
 | @step b a t q _ hf ih =>
  rw [Xn,VE,<-xp];have f:=Qz hf;have e:=Lit.step ih (by rw [yv];exact f);rw [zF,VZ] at e;exact e
def Wy (l:QL) (b:BL) (t:Int):Nat->Nat->Option Nat
 | 0,_=>none
 | n+1,q=>if yw l b t q=true then some q else Wy l b t n (q+1)
def Vc (l:QL) (b:BL):Nat->Int->Option (Int×Nat)
 | 0,_=>none
 | n+1,t=>match Wy l b t l.length 0 with
  | some q=>some (t,q)
  | none=>Vc l b n (t+1)
theorem V6 {l:QL} {b:BL} {t:Int}:∀ {n q:Nat},(∀ i,q<=i->i<q+n->yw l b t i=false)->Wy l b t n q=none
 | 0,_,_=>rfl
 | n+1,q,h=>by
  rw [Wy,h q (Nat.le_refl _) (by omega),if_neg (by decide)];exact V6 fun i a c=>h i (by omega) (by omega)
theorem RM {l:QL} {b:BL} {t:Int} {k:Nat} (a:yw l b t k=true):∀ {n q:Nat},q<=k->k<q+n->(∀ i,q<=i->i<k->yw l b t i=false)->Wy l b t n q=some k
 | 0,_,h1,h2,_=>by omega
 | n+1,q,h1,h2,h3=>by
  rw [Wy];by_cases e:q=k
  ·subst e;rw [if_pos a]
  rw [h3 q (Nat.le_refl _) (by omega),if_neg (by decide)];exact RM a (by omega) (by omega) fun i d c=>h3 i (by omega) c
theorem RN {l:QL} {b:BL}:∀ {n:Nat} {t:Int},(∀ a,t<=a->a<t+n->∀ i,i<l.length->yw l b a i=false)->Vc l b n t=none
 | 0,_,_=>rfl
 | n+1,t,h=>by
  rw [Vc,V6 fun i _ e=>h t (Int.le_refl _) (by omega) i (by omega)];exact RN fun a c d=>h a (by omega) (by omega)
theorem RO {l:QL} {b:BL} {s:Int} {k:Nat} (f:yw l b s k=true) (h:k<l.length) (c:∀ i,i<k->yw l b s i=false):∀ {n:Nat} {t:Int},t<=s->s<t+n->(∀ a,t<=a->a<s->∀ i,i<l.length->yw l b a i=false)->Vc l b n t=some (s,k)
 | 0,_,h1,h2,_=>by omega
 | n+1,t,h1,h2,h3=>by
  rw [Vc];by_cases e:t=s
  ·subst e;rw [RM f (Nat.zero_le _) (by omega) fun i _ d=>c i d]
  rw [V6 fun i _ d=>h3 t (Int.le_refl _) (by omega) i (by omega)];exact RO f h c (by omega) (by omega) fun a j g=>h3 a (by omega) g
def Ny (c:Int) (l:QL):Nat->BL->BL->BL×BL
 | 0,b,aw=>(b,aw)
 | k+1,b,aw=>match Vc l b (48-c).toNat c with
  | none=>(b,aw)
  | some (t,q)=>Ny c l k (wU b (wC l b t q b.length)) (Zj aw (bk b (wC l b t q b.length)))
theorem IH {c:Int} {l:QL} {d b a:BL} (h:Lit c l d b a):∀ k,Ny c l (a.length+k) d []=Ny c l k b a:=by
 induction h with
 | start=>intro k;rw [List.length_nil,Nat.zero_add]
 | @step b a t q _ hf ih =>
  intro k;rw [Z7,Nat.add_assoc,Nat.add_comm 1 k,ih (k+1),Ny];rcases hf with ⟨e,_⟩ | ⟨_,o,r,j,i,p,m,f,g⟩
  ·cases e
  have n:q=j:=by omega
  subst n;rw [RO m i f o (by omega) g]
theorem Gl {c:Int} {l:QL} {e b a:BL} (h:Lit c l e b a) (j:∀ d,c<=d->d<48->∀ q,q<l.length->yw l b d q=false) {m:Nat} (o:a.length<=m):Ny c l m e []=(b,a):=by
 obtain ⟨k,rfl⟩:∃ k,m=a.length+k:=⟨m-a.length,by omega⟩;rw [IH h k];cases k with
 | zero=>rfl
 | succ k=>rw [Ny,RN fun d f n i g=>j d f (by omega) i g]
theorem O2 (X:Bk) (c:Int):ZD X.bare c=ZD X c:=by kernel_rfl
theorem XF (l:QL) (b:BL) (r:Rq):yU (zi l) (zg b) r.bare=yU l b r:=by
 unfold yU;show (if Zq (zi l) (zg b) r.queue=0 then (if yq (xH (zi l) (zg b) r.queue) r.bare=0 then Zf r.bare (xH (zi l) (zg b) r.queue) else ([],false)) else ([],false))=_;rw [Ll,Lm,MR];rfl
theorem Ws (c:Int) (l:QL) (b:BL) (X:Bk):y9 c (zi l) (zg b) X.bare=y9 c l b X:=by
 unfold y9;rw [O2,show X.bare.rq.from c=(X.rq.from c).bare from rfl,XF]
def QG (c:Int) (l:QL):BL->BL->List Int->List Int->BL×List Int×List Int
 | [],b,mv,dr=>(b,mv,dr)
 | X::r,b,mv,dr=>if (y9 c l b X).2=true then QG c l r (Zj b ⟨X.id,X.rq,none,0,0,(y9 c l b X).1⟩) (mv++[X.id]) dr else QG c l r b mv (dr++[X.id])
theorem I9 {c:Int} {l:QL} {b1 a b:BL} {j:Nat} {mv dr:List Int} (h:Stl c l b1 a j b mv dr):QG c (zi l) (zg a) (zg b1) [] []=QG c (zi l) (zg (a.drop j)) (zg b) mv dr:=by
 induction h with
 | start=>rfl
 | @moved j b mv dr fa fm fc _ hj hr ih =>
  rw [ih,show a.drop j=bk a j::a.drop (j+1) by rw [wI hj];exact (List.getElem_cons_drop hj).symm];show QG c (zi l) ((bk a j).bare::zg (a.drop (j+1))) _ _ _=_;rw [QG,Ws,if_pos hr,VE];rfl
 | @dropped j b mv dr _ hj hr ih =>
  rw [ih,show a.drop j=bk a j::a.drop (j+1) by rw [wI hj];exact (List.getElem_cons_drop hj).symm];show QG c (zi l) ((bk a j).bare::zg (a.drop (j+1))) _ _ _=_;rw [QG,Ws,if_neg (by rw [hr];decide)];rfl
theorem GH {c:Int} {l:QL} {b1 a b:BL} {mv dr:List Int} (h:Stl c l b1 a a.length b mv dr):QG c (zi l) (zg a) (zg b1) [] []=(zg b,mv,dr):=by
 rw [I9 h,List.drop_length];rfl
def Sk (c:Int) (l:QL) (b:BL):BL×List Int×List Int:=QG c l (Ny c l 12 b []).2 (Ny c l 12 b []).1 [] []
theorem Uw {c:Int} {l:QL} {e b1 d b:BL} {mv dr:List Int} (f:Clean l e) (k:0<=c) (h:Lit c l e b1 d) (o:∀ a,c<=a->a<48->∀ q,q<l.length->yw l b1 a q=false) (p:Stl c l b1 d d.length b mv dr):Sk c (zi l) (zg e)=(zg b,mv,dr):=by
 have s:=(h.clean f k).2.2.2;have r:=f.few;have n:=Gl h.bare (fun a i j q g=>by rw [Yp];exact o a i j q (by rw [yv] at g;exact g)) (m:=12) (by rw [zF];omega);unfold Sk;rw [n];exact GH p
def GP (w w':World) (e:Ending) (c n:Int) (tn:Nat) (l:QL) (b:BL) (q:Nat) (rs:zd):Prop :=
 ∃ (g k1:Nat) (l9:QL) (aa:Option Addr) (k9:Nat) (b9:BL) (mv dr:List Int) (ma:Option Addr) (mk:Nat) (da:Option Addr) (dk:Nat),
  e=.returned (.tuple #[.agg (zS c n (zO g 0) tn k1 aa (List.length b9) k9),.slice ma (List.length mv) mk,.slice da (List.length dr) dk,zI 0])/\zY w' (zO g 0) tn k1 l9 aa b9.length k9 b9/\Sk c (zi (yP l q rs)) (zg b)=(zg b9,mv,dr)/\zG w' w.heap.size (.slice ma mv.length mk) mv/\zG w' w.heap.size (.slice da dr.length dk) dr/\Below w.heap.size w w'
theorem LB.told {w w':World} {e:Ending} {c n:Int} {k:Nat} {l:QL} {b:BL} {q:Nat} {rs:zd} (h:LB w w' e c n k l b q rs) (C:zU c n l b=0) (F:z9 (yP l q rs)=0):GP w w' e c n k l b q rs:=by
 obtain ⟨g,G,d,m,H,p,o,b1,J,mv,dr,I,mk,r,s,x,D,a,j,z,B,E,A,v,t⟩:=h;have i:=yZ C;have y:d.length=l.length:=by
  have f:=congrArg List.length a;rw [yv,yv,Zd] at f;exact f
 have u:Clean d o:=Yh (Wg i.clean j) (by rw [<-xi,a,xi];exact F) y;refine ⟨g,G,d,m,H,p,mv,dr,I,mk,r,s,x,D,?_,A,v,t⟩;rw [<-a,<-j];exact Uw u i.c0 z B E
theorem LM {c n:Int} {l:QL} {b:BL} (h:Sound c n l b) {i:Nat} (e:i<b.length):xy c n l b (bk b i).id=0/\Ux c n l b (bk b i).id=i:=by
 have a:=FG h e;have d:=YJ h;refine ⟨?_,?_⟩
 ·unfold xy;rw [if_pos d,a];rfl
 unfold Ux;rw [if_pos d,a]
theorem Iy {c n:Int} {l:QL} {b:BL} (h:Sound c n l b) {a:Int} (k:∀ x∈b,x.id≠a):xy c n l b a=6:=by
 have g:=YJ h;have f:yS b a=none:=by
  cases e:yS b a with
  | none=>rfl
  | some i =>
   have j:=yz e;exfalso;have d:=j.2.2.1;simp only [beq_iff_eq] at d;exact k _ (yx (by omega)) d
 unfold xy;rw [if_pos g,f];rfl
def PP (c n:Int) (l9:QL) (b9:BL) (mv dr:List Int) (X:Bk):Prop :=
 (mv.count X.id=0/\dr.count X.id=0/\∃ i:Nat,i<b9.length/\xy c n l9 b9 X.id=0/\Ux c n l9 b9 X.id=i/\(bk b9 i).rq.bare=X.rq.bare/\(bk b9 i).bs=X.bs) \/
 (mv.count X.id=1/\dr.count X.id=0/\∃ i:Nat,i<b9.length/\xy c n l9 b9 X.id=0/\Ux c n l9 b9 X.id=i/\(bk b9 i).rq.bare=X.rq.bare/\∀ j,j<(bk b9 i).bs.length->c<=rN (bk b9 i).bs j) \/
 (mv.count X.id=0/\dr.count X.id=1/\xy c n l9 b9 X.id=6)
theorem I1 {c n:Int} {o:QL} {l m:BL} {mv dr:List Int} (h:CutFacts c n o l m mv dr) {X a:Bk} (p:X∈l) (k:a.bare=X.bare):PP c n o m mv dr a:=by
 have zh:a.id=X.id:=show a.bare.id=X.bare.id by rw [k]
 have s:a.rq.bare=X.rq.bare:=show a.bare.rq=X.bare.rq by rw [k]
 have r:a.bs=X.bs:=show a.bare.bs=X.bare.bs by rw [k]
 unfold PP;rw [zh,s,r];rcases h.each X p with ⟨b,d,j⟩ | ⟨b,d,w,q,t,u,v⟩ | ⟨b,d,j⟩
 ·obtain ⟨i,e,rfl⟩:=yT j;obtain ⟨f,g⟩:=LM h.sound e;exact Or.inl ⟨b,d,i,e,f,g,rfl,rfl⟩
 ·obtain ⟨i,e,rfl⟩:=yT q;obtain ⟨f,g⟩:=LM h.sound e;rw [t] at f g;exact Or.inr (Or.inl ⟨b,d,i,e,f,g,by rw [u],v⟩)
 exact Or.inr (Or.inr ⟨b,d,Iy h.sound j⟩)
def GQ (w w':World) (e:Ending) (c n:Int) (tn:Nat) (b:BL):Prop :=
 ∃ (g k1:Nat) (l9:QL) (aa:Option Addr) (k9:Nat) (b9:BL) (mv dr:List Int) (ma:Option Addr) (mk:Nat) (da:Option Addr) (dk:Nat),
  e=.returned (.tuple #[.agg (zS c n (zO g 0) tn k1 aa (List.length b9) k9),.slice ma (List.length mv) mk,.slice da (List.length dr) dk,zI 0])/\zY w' (zO g 0) tn k1 l9 aa b9.length k9 b9/\zU c n l9 b9=0/\b9.length+dr.length=b.length/\(mv.length<=12/\dr.length<=12/\b.length<=12)/\(∀ k,k<b.length->PP c n l9 b9 mv dr (bk b k))/\IntsIn w' ma mv.length mk mv/\IntsIn w' da dr.length dk dr/\Below w.heap.size w w'
theorem TY {w:World} {B:Nat} {a:Option Addr} {m k:Nat} {l:List Int} (h:zG w B (.slice a m k) l):IntsIn w a l.length k l:=by
 obtain ⟨c,k',e,b⟩:=zG.parts h;simp only [Value.slice.injEq] at e;obtain ⟨rfl,_,rfl⟩:=e;exact b
theorem LB.true {w w':World} {e:Ending} {c n:Int} {u:Nat} {l:QL} {b:BL} {q:Nat} {rs:zd} (h:LB w w' e c n u l b q rs) (N:zU c n l b=0) (Q:z9 (yP l q rs)=0):GQ w w' e c n u b:=by
 obtain ⟨g,R,s,v,S,y,a,b1,aa,mv,dr,U,mk,z,A,E,O,t,o,J,M,P,L,D,B⟩:=h;have d:=yZ N;have I:s.length=l.length:=by
  have m:=congrArg List.length t;rw [yv,yv,Zd] at m;exact m
 have C:Clean s a:=Yh (Wg d.clean o) (by rw [<-xi,t,xi];exact Q) I;obtain ⟨ae,V,W⟩:=X8 d;have ab:a.length=b.length:=O1 o;have f:∀ i,(bk a i).bare=(bk b i).bare:=LI o;have X:Up a:=by
  unfold Up;rw [List.pairwise_iff_getElem];intro i j p H G;have m:=YG d (j:=j) (by omega) G;rw [<-wI p,<-wI H,show (bk a i).id=(bk a i).bare.id from rfl,show (bk a j).id=(bk a j).bare.id from rfl,f,f];exact m
 have Y:∀ x∈a,0<=x.id/\x.id<n:=by
  intro x r;obtain ⟨i,p,rfl⟩:=yT r;rw [show (bk a i).id=(bk a i).bare.id from rfl,f];exact V (bk b i) (yx (by omega))
 have Z:∀ x∈a,c<yA x:=by
  intro x r;obtain ⟨i,p,rfl⟩:=yT r;rw [<-Wm,f,Wm];exact W _ (yx (by omega))
 have F:=Q5 (n:=n) C d.c0 d.c48 d.n0 d.n1 X Y Z J M P;exact ⟨g,R,s,v,S,y,mv,dr,U,mk,z,A,E,O,YJ F.sound,by have:=F.len;omega,⟨F.few.1,F.few.2,d.clean.few⟩,fun k ad=>I1 F (yx (show k<a.length by omega)) (f k).symm,TY L,TY D,B⟩
structure St where
 c:Int
 n:Int
 l:QL
 b:BL
theorem PR (l:QL):zi (zi l)=zi l:=by unfold zi;rw [List.map_map];rfl
theorem MF (b:BL):zg (zg b)=zg b:=by unfold zg;rw [List.map_map];rfl
def ZO (s:St) (x:Ac):Int:=if x.kind=1 then Zp s.c s.n s.l s.b x.rq else if x.kind=2 then xy s.c s.n s.l s.b x.n else if x.kind=3 then we s.c s.n s.l s.b x.n else if x.kind=4 then ZG s.c s.n s.l s.b x.n x.cs else 7
def YR (s:St) (x:Ac):St :=
 if x.kind=1 then ⟨s.c,s.n+1,s.l,s.b++[⟨s.n,x.rq.bare,none,0,0,(yU s.l s.b x.rq).1⟩]⟩
 else if x.kind=2 then ⟨s.c,s.n,s.l,wU s.b ((yS s.b x.n).getD 0)⟩
 else if x.kind=3 then ⟨x.n,s.n,s.l,xU s.b x.n⟩
 else ⟨s.c,s.n,zi (yP s.l x.n.toNat x.cs),(Sk s.c (zi (yP s.l x.n.toNat x.cs)) s.b).1⟩
theorem WM (b:BL) (a:Int):yS (zg b) a=yS b a:=by
 unfold yS;rw [zF]
 congr 1
 funext i
 rw [xp];rfl
theorem Lp (c n:Int) (l:QL) (b:BL) (r:Rq):wW c n (zi l) (zg b) r.bare=wW c n l b r:=by
 unfold wW;rw [xQ,S8];rfl
theorem JB (c n:Int) (l:QL) (b:BL) (r:Rq):Zp c n (zi l) (zg b) r.bare=Zp c n l b r:=by
 unfold Zp;rw [Lp,zF,XF]
theorem MS (c n:Int) (l:QL) (b:BL) (a:Int):xy c n (zi l) (zg b) a=xy c n l b a:=by
 unfold xy;rw [xQ,WM]
theorem Lw (c n:Int) (l:QL) (b:BL) (t:Int):we c n (zi l) (zg b) t=we c n l b t:=by
 unfold we;rw [xQ]
theorem VV (l:QL) (q:Nat) (rs:zd):zi (yP (zi l) q rs)=zi (yP l q rs):=U9 (PR l) q none 0 0 rs
theorem Kr (l:QL) (q:Nat) (rs:zd):z9 (yP (zi l) q rs)=z9 (yP l q rs):=by rw [<-xi,VV,xi]
theorem Kq (c n:Int) (l:QL) (b:BL) (q:Int) (rs:zd):ZG c n (zi l) (zg b) q rs=ZG c n l b q rs:=by
 unfold ZG;rw [xQ,yv,Kr]
theorem Nc (c n:Int) (l:QL) (b:BL) (x:Ac):ZO ⟨c,n,zi l,zg b⟩ x.bare=ZO ⟨c,n,l,b⟩ x:=by
 unfold ZO;show (if x.kind=1 then Zp c n (zi l) (zg b) x.rq.bare else if x.kind=2 then xy c n (zi l) (zg b) x.n else if x.kind=3 then we c n (zi l) (zg b) x.n else if x.kind=4 then ZG c n (zi l) (zg b) x.n x.cs else 7)=_;rw [JB,MS,Lw,Kq]
theorem RL {l:QL} {b:BL} {t:Int}:∀ {n q:Nat},Wy l b t n q=none->∀ i,q<=i->i<q+n->yw l b t i=false
 | 0,q,_,i,h1,h2=>by omega
 | n+1,q,h,i,h1,h2=>by
  rw [Wy] at h;by_cases e:yw l b t q=true
  ·rw [if_pos e] at h;cases h
  rw [if_neg e] at h;by_cases a:i=q
  ·subst a;simpa using e
  exact RL h i (by omega) (by omega)
theorem Pi {l:QL} {b:BL} {t:Int}:∀ {n q k:Nat},Wy l b t n q=some k->q<=k/\k<q+n/\yw l b t k=true/\∀ i,q<=i->i<k->yw l b t i=false
 | 0,q,k,h=>by cases h
 | n+1,q,k,h=>by
  rw [Wy] at h;by_cases e:yw l b t q=true
  ·rw [if_pos e] at h;cases h
   exact ⟨Nat.le_refl _,by omega,e,fun i g a=>by omega⟩
  rw [if_neg e] at h;obtain ⟨j,m,c,d⟩:=Pi h;refine ⟨by omega,by omega,c,fun i g a=>?_⟩;by_cases f:i=q
  ·subst f;simpa using e
  exact d i (by omega) a
theorem NH {l:QL} {b:BL}:∀ {n:Nat} {t:Int},Vc l b n t=none->∀ a,t<=a->a<t+n->∀ i,i<l.length->yw l b a i=false
 | 0,t,_,a,h1,h2,i,_=>by omega
 | n+1,t,h,a,h1,h2,i,hi=>by
  rw [Vc] at h;cases c:Wy l b t l.length 0 with
  | some q=>rw [c] at h;cases h
  | none =>
   rw [c] at h;by_cases e:a=t
   ·subst e;exact RL c i (Nat.zero_le _) (by omega)
   exact NH h a (by omega) (by omega) i hi
theorem Pj {l:QL} {b:BL}:∀ {n:Nat} {t s:Int} {k:Nat},Vc l b n t=some (s,k)->t<=s/\s<t+n/\k<l.length/\yw l b s k=true/\(∀ i,i<k->yw l b s i=false)/\∀ a,t<=a->a<s->∀ i,i<l.length->yw l b a i=false
 | 0,t,s,k,h=>by cases h
 | n+1,t,s,k,h=>by
  rw [Vc] at h;cases c:Wy l b t l.length 0 with
  | some q =>
   rw [c] at h;cases h
   obtain ⟨_,m,d,f⟩:=Pi c;exact ⟨Int.le_refl _,by omega,by omega,d,fun i g=>f i (Nat.zero_le _) g,fun a r j=>by omega⟩
  | none =>
   rw [c] at h;obtain ⟨u,m,d,f,o,p⟩:=Pj h;refine ⟨by omega,by omega,d,f,o,fun a r j i g=>?_⟩;by_cases e:a=t
   ·subst e;exact RL c i (Nat.zero_le _) (by omega)
   exact p a (by omega) j i g
theorem LS {c:Int} {l:QL} {g:BL} (j:Clean l g) (i:0<=c) (B:c<=48):∀ (m:Nat) {b d:BL},Lit c l g b d->b.length=m->∃ b1 x,Lit c l g b1 x/\∀ a,c<=a->a<48->∀ q,q<l.length->yw l b1 a q=false:=by
 intro m
 induction m with
 | zero =>
  intro b d h n;refine ⟨b,d,h,fun a e f q k=>?_⟩;have z:b=[]:=List.length_eq_zero_iff.1 n;subst z;exact UM (h.clean j i).1 k (by omega) f
 | succ m ih =>
  intro b d h n;cases o:Vc l b (48-c).toNat c with
  | none=>exact ⟨b,d,h,fun a e f q k=>NH o a e (by omega) q k⟩
  | some p =>
   obtain ⟨t,q⟩:=p;obtain ⟨e,f,s,u,v,w⟩:=Pj o;have r:=Lit.step h (Or.inr ⟨rfl,e,by omega,q,s,rfl,u,v,w⟩);refine ih r ?_;have A:=(h.clean j i).2.2.2;have y:=(r.clean j i).2.2.2;rw [Z7] at y;omega
theorem On (c:Int) (l:QL) (b1 a:BL):∀ j,j<=a.length->∃ b mv dr,Stl c l b1 a j b mv dr
 | 0,_=>⟨_,_,_,Stl.start⟩
 | j+1,h=>by
  obtain ⟨b,mv,dr,e⟩:=On c l b1 a j (by omega);by_cases d:(y9 c l b (bk a j)).2=true
  ·exact ⟨_,_,_,Stl.moved (fa:=none) (fm:=0) (fc:=0) e (by omega) d⟩
  exact ⟨_,_,_,Stl.dropped e (by omega) (by simpa using d)⟩
theorem Is {c n:Int} {l:QL} {b:BL} {q:Int} {rs:zd} (h:ZG c n l b q rs=0):zU c n l b=0/\0<=q/\q<l.length/\z9 (yP l q.toNat rs)=0:=by
 unfold ZG at h;by_cases a:zU c n l b=0
 ·rw [if_pos a] at h;by_cases d:0<=q/\q<l.length
  ·rw [if_pos d] at h;exact ⟨a,d.1,d.2,h⟩
  rw [if_neg d] at h;omega
 rw [if_neg a] at h;exact absurd h a
theorem MN {c n:Int} {l:QL} {b:BL} {q:Int} {rs:zd} (h:ZG c n l b q rs=0):zU c n (zi (yP l q.toNat rs)) (Sk c (zi (yP l q.toNat rs)) (zg b)).1=0:=by
 obtain ⟨j,s,t,k⟩:=Is h;have a:=yZ j;have d:Clean (yP l q.toNat rs) b:=Yh a.clean k (Zd ..);obtain ⟨m,o,p⟩:=X8 a;obtain ⟨b1,e,f,g⟩:=LS d a.c0 a.c48 b.length Lit.start rfl;obtain ⟨r,mv,dr,i⟩:=On c (yP l q.toNat rs) b1 e e.length (Nat.le_refl _);have F:=Q5 (n:=n) d a.c0 a.c48 a.n0 a.n1 m o p f g i;rw [Uw d a.c0 f g i,xQ];exact YJ F.sound
theorem QT {c n:Int} {l:QL} {b:BL} {d:Int} (h:xy c n l b d=0):zU c n l b=0/\∃ i,yS b d=some i/\i<b.length:=by
 unfold xy at h;by_cases a:zU c n l b=0
 ·rw [if_pos a] at h;cases e:yS b d with
  | none=>rw [e] at h;simp at h
  | some i=>exact ⟨a,i,rfl,by have:=(yz e).2.1;omega⟩
 rw [if_neg a] at h;exact absurd h a
theorem Vz (b:BL) (x:Bk):zg (b++[x])=zg b++[x.bare]:=by unfold zg;rw [List.map_append];rfl
theorem Ku {s:St} {x:Ac} (f:zg s.b=s.b) (h:ZO s x=0):zU (YR s x).c (YR s x).n (YR s x).l (YR s x).b=0:=by
 obtain ⟨c,n,l,b⟩:=s;simp only at f;unfold ZO at h;unfold YR;by_cases a:x.kind=1
 ·rw [if_pos a] at h;rw [if_pos a];simp only at h ⊢;rw [<-YJ (PS h)];refine Lg rfl ?_;rw [Vz,Vz];rfl
 rw [if_neg a] at h;rw [if_neg a];by_cases d:x.kind=2
 ·rw [if_pos d] at h;rw [if_pos d];simp only at h ⊢;obtain ⟨m,i,j,k⟩:=QT h;rw [j];exact YJ (QH (yZ m) k)
 rw [if_neg d] at h;rw [if_neg d];by_cases e:x.kind=3
 ·rw [if_pos e] at h;rw [if_pos e];exact YJ (Lx h)
 rw [if_neg e] at h;rw [if_neg e];by_cases g:x.kind=4
 ·rw [if_pos g] at h;simp only at h ⊢;have:=MN h;rw [f] at this;exact this
 rw [if_neg g] at h;omega
theorem Iv {s:St} {x:Ac} (f:zi s.l=s.l) (a:zg s.b=s.b) (h:ZO s x=0):zi (YR s x).l=(YR s x).l/\zg (YR s x).b=(YR s x).b:=by
 obtain ⟨c,n,l,b⟩:=s;simp only at f a;unfold ZO at h;unfold YR;by_cases g:x.kind=1
 ·rw [if_pos g];refine ⟨f,?_⟩;simp only;rw [Vz,a];rfl
 rw [if_neg g] at h;rw [if_neg g];by_cases i:x.kind=2
 ·rw [if_pos i];refine ⟨f,?_⟩;simp only;rw [Xn,a]
 rw [if_neg i] at h;rw [if_neg i];by_cases j:x.kind=3
 ·rw [if_pos j];refine ⟨f,?_⟩;simp only;rw [Xu,a]
 rw [if_neg j] at h;rw [if_neg j];by_cases o:x.kind=4
 ·rw [if_pos o] at h;refine ⟨PR _,?_⟩;simp only at h ⊢;obtain ⟨r,w,y,u⟩:=Is h;have d:=yZ r;have m:Clean (yP l x.n.toNat x.cs) b:=Yh d.clean u (Zd ..);obtain ⟨b1,k,p,q⟩:=LS m d.c0 d.c48 b.length Lit.start rfl;obtain ⟨v,mv,dr,t⟩:=On c (yP l x.n.toNat x.cs) b1 k k.length (Nat.le_refl _);have e:=Uw m d.c0 p q t;rw [a] at e;rw [e];exact MF _
 rw [if_neg o] at h;omega
def VN (s:St) (x:Ac):St:=if ZO s x=0 then YR s x else s
def Yd (s:St) (l:List Ac):St:=l.foldl VN s
theorem Pt (s:St) (l:List Ac) (x:Ac):Yd s (l++[x])=VN (Yd s l) x:=by unfold Yd;rw [List.foldl_append];rfl
structure GoodSt (s:St):Prop where
 q:zi s.l=s.l
 b:zg s.b=s.b
 e:zU s.c s.n s.l s.b=0
theorem GoodSt.done {s:St} (h:GoodSt s) (x:Ac):GoodSt (VN s x):=by
 unfold VN;by_cases e:ZO s x=0
 ·rw [if_pos e];have:=Iv h.q h.b e;exact ⟨this.1,this.2,Ku h.b e⟩
 rw [if_neg e];exact h
theorem GoodSt.recs {s:St} (h:GoodSt s):∀ l:List Ac,GoodSt (Yd s l):=by
 intro l
 induction l generalizing s with
 | nil=>exact h
 | cons x l ih=>exact ih (h.done x)
theorem TJ {l:QL} (h:z9 l=0):GoodSt ⟨0,0,zi l,[]⟩:=by
 refine ⟨PR l,rfl,?_⟩;have:=xQ 0 0 l [];rw [show zg []=[] from rfl] at this;rw [this];have b:Clean l []:=⟨h,Nat.zero_le _,fun i a=>absurd a (Nat.not_lt_zero _)⟩;refine YJ ⟨b,by omega,by omega,by omega,by omega,fun i a=>absurd a (Nat.not_lt_zero _),fun i a=>absurd a (Nat.not_lt_zero _),fun q e t _ g=>?_⟩;have c:=UM b e (t:=(t:Int)) (by omega) (by omega);have d:=UL b e (t:=(t:Int)) (by omega) (by omega);rw [Int.toNat_natCast] at d;refine Int.not_lt.1 fun f=>?_;rw [d.2 f] at c;cases c
def X9 (w:World) (B:Nat) (E:Int) (s:St) (c n:Int) (ta:Option Addr) (tn tc:Nat) (ba:Option Addr) (bn bc:Nat):Prop :=
 (E≠0/\c=0/\n=0/\ta=none/\tn=0/\tc=0/\ba=none/\bn=0/\bc=0)\/(E=0/\∃ l b,zY w ta tn tc l ba bn bc b/\c=s.c/\n=s.n/\zi l=s.l/\zg b=s.b/\NewSt B ta tn l ba bn b)
theorem X9.later {w w':World} {B:Nat} {a:Int} {s:St} {c n:Int} {d:Option Addr} {g f:Nat} {ba:Option Addr} {bn bc:Nat} (h:X9 w B a s c n d g f ba bn bc) (i:Below w.heap.size w w'):X9 w' B a s c n d g f ba bn bc:=by
 rcases h with h | ⟨e,l,b,j,r⟩
 ·exact Or.inl h
 exact Or.inr ⟨e,l,b,j.later i,r⟩
theorem QsIn.keep {w w':World} {a:Option Addr} {n cap:Nat} {l:QL} (h:QsIn w a n cap l) (m:0<n->∀ g c,a=zO g c->w'.heap[g]?=w.heap[g]?) (o:∀ i,i<n->0<(qu l i).cn->∀ g c,(qu l i).ca=zO g c->w'.heap[g]?=w.heap[g]?):QsIn w' a n cap l:=by
 refine ⟨h.len,h.le,h.capb,fun k=>?_,fun i d=>(h.caps i d).of_away (o i d),h.names⟩;obtain ⟨b,c,j,f⟩:=h.cells k;have e:=m k b c j;exact ⟨b,c,j,fun i d=>⟨(World.cell?_of_block (w:=w) (a:=(zA b (c+i*3))) e).trans (f i d).1,(World.cell?_of_block (w:=w) (a:=(zA b (c+i*3+1))) e).trans (f i d).2.1,(World.cell?_of_block (w:=w) (a:=(zA b (c+i*3+2))) e).trans (f i d).2.2⟩⟩
theorem BksIn.keep {w w':World} {a:Option Addr} {n cap:Nat} {l:BL} (h:BksIn w a n cap l) (o:0<n->∀ g c,a=zO g c->w'.heap[g]?=w.heap[g]?) (p:∀ i,i<n->0<(bk l i).rq.pn->∀ g c,(bk l i).rq.pa=zO g c->w'.heap[g]?=w.heap[g]?) (q:∀ i,i<n->0<(bk l i).bn->∀ g c,(bk l i).ba=zO g c->w'.heap[g]?=w.heap[g]?):BksIn w' a n cap l:=by
 refine ⟨h.len,h.le,h.capb,fun j=>?_,fun i d=>RunsIn.of_away (h.rqs i d) (p i d),fun i d=>(h.bites i d).of_away (q i d)⟩;obtain ⟨b,c,f,r⟩:=h.cells j;have e:=o j b c f;refine ⟨b,c,f,fun i d=>?_⟩;obtain ⟨k,c1,c2,c3,c4,c5,m⟩:=r i d;exact ⟨(World.cell?_of_block (w:=w) (a:=(zA b (c+i*7))) e).trans k,(World.cell?_of_block (w:=w) (a:=(zA b (c+i*7+1))) e).trans c1,(World.cell?_of_block (w:=w) (a:=(zA b (c+i*7+2))) e).trans c2,(World.cell?_of_block (w:=w) (a:=(zA b (c+i*7+3))) e).trans c3,(World.cell?_of_block (w:=w) (a:=(zA b (c+i*7+4))) e).trans c4,(World.cell?_of_block (w:=w) (a:=(zA b (c+i*7+5))) e).trans c5,(World.cell?_of_block (w:=w) (a:=(zA b (c+i*7+6))) e).trans m⟩
theorem zY.keep {w w':World} {B:Nat} {m:Option Addr} {n o:Nat} {l:QL} {ba:Option Addr} {bn bc:Nat} {b:BL} (h:zY w m n o l ba bn bc b) (d:NewSt B m n l ba bn b) (j:∀ k,B<=k->w'.heap[k]?=w.heap[k]?):zY w' m n o l ba bn bc b :=
 ⟨h.1.keep (fun a g c e=>j g (d.qs a g c e)) (fun i f a g c e=>j g (d.caps i f a g c e)),h.2.keep (fun a g c e=>j g (d.bks a g c e)) (fun i f a g c e=>j g (d.ps i f a g c e)) (fun i f a g c e=>j g (d.bs i f a g c e))⟩
theorem X9.keep {w w':World} {B:Nat} {a:Int} {s:St} {c n:Int} {f:Option Addr} {i g:Nat} {ba:Option Addr} {bn bc:Nat} (h:X9 w B a s c n f i g ba bn bc) (j:∀ k,B<=k->w'.heap[k]?=w.heap[k]?):X9 w' B a s c n f i g ba bn bc:=by
 rcases h with h | ⟨e,l,b,m,o,p,q,r,d⟩
 ·exact Or.inl h
 exact Or.inr ⟨e,l,b,m.keep d j,o,p,q,r,d⟩
theorem X9.mono {w:World} {B a:Nat} {d:Int} {s:St} {c n:Int} {f:Option Addr} {i g:Nat} {ba:Option Addr} {bn bc:Nat} (h:X9 w B d s c n f i g ba bn bc) (j:a<=B):X9 w a d s c n f i g ba bn bc:=by
 rcases h with h | ⟨e,l,b,m,o,p,q,r,k⟩
 ·exact Or.inl h
 exact Or.inr ⟨e,l,b,m,o,p,q,r,k.mono j⟩
theorem Mx (w:World) (c n:Int) (f:Option Addr) (k j:Nat) (l:QL) (ba:Option Addr) (bn bc:Nat) (b:BL) (h:zY w f k j l ba bn bc b) (r:Rq) (m:zH w r) :
 zC 52 #[.agg (zS c n f k j ba bn bc),.agg #[zI r.queue,zI r.fr,zI r.un,zI r.kind,.slice r.pa r.pn r.pc]] w fun e w'=>∃ t u v y x p s q i,e=.returned (.tuple #[.agg (zS t u v y x p s q),zI i,zI (Zp c n l b r)])/\X9 w' w.heap.size (Zp c n l b r) ⟨c,n+1,zi l,zg b++[⟨n,r.bare,none,0,0,(yU l b r).1⟩]⟩ t u v y x p s q/\Below w.heap.size w w':=by
 have H:=h.2.len;by_cases a:wW c n l b r=0
 ·by_cases A:12<=bn\/1048576<=n
  ·have e:Zp c n l b r=2:=(by unfold Zp;rw [if_pos a,if_pos (by omega)]);refine (OU w c n f k j l ba bn bc b h r m a A).mono ?_;rintro _ w' ⟨rfl,d⟩;exact ⟨_,_,_,_,_,_,_,_,_,by rw [e],Or.inl ⟨by rw [e];decide,rfl,rfl,rfl,rfl,rfl,rfl,rfl,rfl⟩,d⟩
  by_cases o:(yU l b r).2=true
  ·have e:Zp c n l b r=0:=(by unfold Zp;rw [if_pos a,if_neg (by omega),if_pos o]);refine (Mw w c n f k j l ba bn bc b h r m e).mono ?_;rintro _ w' ⟨g,I,F,G,J,z,rfl,E,C,B,d,D⟩;exact ⟨_,_,_,_,_,_,_,_,_,by rw [e],Or.inr ⟨e,F,z,E,rfl,rfl,C,by rw [B,Vz];rfl,D⟩,d⟩
  have e:Zp c n l b r=8:=by unfold Zp;rw [if_pos a,if_neg (by omega),if_neg o]
  refine (OT w c n f k j l ba bn bc b h r m a (by omega) (by omega) (by simpa using o)).mono ?_;rintro _ w' ⟨rfl,d⟩;exact ⟨_,_,_,_,_,_,_,_,_,by rw [e],Or.inl ⟨by rw [e];decide,rfl,rfl,rfl,rfl,rfl,rfl,rfl,rfl⟩,d⟩
 ·have e:Zp c n l b r=wW c n l b r:=by unfold Zp;rw [if_neg a]
  refine (PQ w c n f k j l ba bn bc b h r m a).mono ?_;rintro _ w' ⟨rfl,d⟩;exact ⟨_,_,_,_,_,_,_,_,_,by rw [e],Or.inl ⟨by rw [e];exact a,rfl,rfl,rfl,rfl,rfl,rfl,rfl,rfl⟩,d⟩
theorem Mb (w:World) (c n:Int) (d:Option Addr) (j f:Nat) (l:QL) (ba:Option Addr) (bn bc:Nat) (b:BL) (h:zY w d j f l ba bn bc b) (a:Int) :
 zC 53 #[.agg (zS c n d j f ba bn bc),zI a] w fun e w'=>∃ q s t x u m p o,e=.returned (.tuple #[.agg (zS q s t x u m p o),zI (xy c n l b a)])/\X9 w' w.heap.size (xy c n l b a) ⟨c,n,zi l,wU (zg b) ((yS b a).getD 0)⟩ q s t x u m p o/\Below w.heap.size w w':=by
 by_cases e:xy c n l b a=0
 ·obtain ⟨C,i,r,G⟩:=QT e;refine (Ma w c n d j f l ba bn bc b h a C i r).mono ?_;rintro _ w' ⟨v,rfl,g,H,E,F,I,y,rfl,D,A,z,k,B⟩;exact ⟨_,_,_,_,_,_,_,_,by rw [e],Or.inr ⟨e,E,y,D,rfl,rfl,A,by rw [z,r];exact Xn b i,B⟩,k⟩
 ·refine (PA w c n d j f l ba bn bc b h a e).mono ?_;rintro _ w' ⟨rfl,k⟩;exact ⟨_,_,_,_,_,_,_,_,rfl,Or.inl ⟨e,rfl,rfl,rfl,rfl,rfl,rfl,rfl,rfl⟩,k⟩
theorem Ib (w:World) (c n:Int) (a:Option Addr) (f d:Nat) (l:QL) (ba:Option Addr) (bn bc:Nat) (b:BL) (h:zY w a f d l ba bn bc b) (t:Int) :
 zC 54 #[.agg (zS c n a f d ba bn bc),zI t] w fun e w'=>∃ p q r u s k o m i,e=.returned (.tuple #[.agg (zS p q r u s k o m),zI i,zI (we c n l b t)])/\X9 w' w.heap.size (we c n l b t) ⟨t,n,zi l,xU (zg b) t⟩ p q r u s k o m/\Below w.heap.size w w':=by
 by_cases e:we c n l b t=0
 ·refine (Ia w c n a f d l ba bn bc b h t e).mono ?_;rintro _ w' ⟨v,rfl,g,E,C,D,F,x,rfl,B,z,y,j,A⟩;exact ⟨_,_,_,_,_,_,_,_,_,by rw [e],Or.inr ⟨e,C,x,B,rfl,rfl,z,by rw [y];exact Xu b t,A⟩,j⟩
 ·refine (My w c n a f d l ba bn bc b h t e).mono ?_;rintro _ w' ⟨rfl,j⟩;exact ⟨_,_,_,_,_,_,_,_,_,rfl,Or.inl ⟨e,rfl,rfl,rfl,rfl,rfl,rfl,rfl,rfl⟩,j⟩
theorem Me (w:World) (c n:Int) (o:Option Addr) (i p:Nat) (l:QL) (ba:Option Addr) (bn bc:Nat) (b:BL) (h:zY w o i p l ba bn bc b) (q:Int) (k:Option Addr) (f m:Nat) (rs:zd) (V:RunsIn w k f m rs) (W:f<=1048576) :
 zC 55 #[.agg (zS c n o i p ba bn bc),zI q,.slice k f m] w fun e w'=>∃ y D E G F u x v Z aa ab J L M,e=.returned (.tuple #[.agg (zS y D E G F u x v),.slice Z aa ab,.slice J L M,zI (ZG c n l b q rs)])/\X9 w' w.heap.size (ZG c n l b q rs) ⟨c,n,zi (yP l q.toNat rs),(Sk c (zi (yP l q.toNat rs)) (zg b)).1⟩ y D E G F u x v/\Below w.heap.size w w':=by
 have aj:=h.1.len;by_cases d:zU c n l b=0
 ·by_cases C:0<=q/\q<i
  ·have e:ZG c n l b q rs=z9 (yP l q.toNat rs):=(by unfold ZG;rw [if_pos d,if_pos (by omega)]);have t:=Md w c n o i p l ba bn bc b h q.toNat (by omega) k f m rs V W d;rw [Int.toNat_of_nonneg C.1] at t;refine t.mono ?_;rintro _ w' (⟨a,rfl,N⟩ | ⟨a,j⟩)
   ·exact ⟨_,_,_,_,_,_,_,_,_,_,_,_,_,_,by rw [e],Or.inl ⟨by rw [e];exact a,rfl,rfl,rfl,rfl,rfl,rfl,rfl,rfl⟩,N⟩
   obtain ⟨g,ak,s,ad,al,I,H,b1,ae,mv,dr,am,mk,af,ag,rfl,X,r,B,R,U,Y,ai,ah,O,S⟩:=j;have A:=yZ d;have Q:s.length=l.length:=by
    have a:=congrArg List.length r;rw [yv,yv,Zd] at a;exact a
   have P:Clean s H:=Yh (Wg A.clean B) (by rw [<-xi,r,xi];exact a) Q;have z:=Uw P A.c0 R U Y;rw [r,B] at z;exact ⟨_,_,_,_,_,_,_,_,_,_,_,_,_,_,by rw [e,a],Or.inr ⟨by rw [e];exact a,s,I,X,rfl,rfl,r,by rw [z],S⟩,O⟩
  have e:ZG c n l b q rs=6:=by unfold ZG;rw [if_pos d,if_neg (by omega)]
  refine (OD w c n o i p l ba bn bc b h q k f m d C).mono ?_;rintro _ w' ⟨rfl,j⟩;exact ⟨_,_,_,_,_,_,_,_,_,_,_,_,_,_,by rw [e],Or.inl ⟨by rw [e];decide,rfl,rfl,rfl,rfl,rfl,rfl,rfl,rfl⟩,j⟩
 ·have e:ZG c n l b q rs=zU c n l b:=by unfold ZG;rw [if_neg d]
  refine (PD w c n o i p l ba bn bc b h q k f m d).mono ?_;rintro _ w' ⟨rfl,j⟩;exact ⟨_,_,_,_,_,_,_,_,_,_,_,_,_,_,by rw [e],Or.inl ⟨by rw [e];exact d,rfl,rfl,rfl,rfl,rfl,rfl,rfl,rfl⟩,j⟩
end Go.Proofs.YtckpdfkobdgjeaaGreatDoor
