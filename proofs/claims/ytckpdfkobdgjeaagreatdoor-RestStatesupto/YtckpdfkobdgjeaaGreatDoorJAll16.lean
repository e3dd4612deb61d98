/- Several texts in one: LogK, Same. -/
import Derived.Test.YtckpdfkobdgjeaaGreatDoorJAll15
import Derived.Test.YtckpdfkobdgjeaaGreatDoorJAll9
namespace Go.Proofs.YtckpdfkobdgjeaaGreatDoor
set_option maxRecDepth 100000
set_option maxHeartbeats 1000000
open Go.RowKit
set_option linter.unusedSectionVars false
variable [Inhabited Mk]
def Ac.bare (x:Ac):Ac:=⟨x.kind,x.n,x.rq.bare,none,0,0,x.cs⟩
def SW (t:ByteArray) (k:Nat):Ac:=⟨byt t k,byt t (k+1),⟨byt t (k+2),byt t (k+3),byt t (k+4),byt t (k+5),none,0,0,Ye t (k+7) (pN t k)⟩,none,0,0,Ye t (pA t k+1) (cN t k)⟩
theorem AcAt.is {t:ByteArray} {k:Nat} {x:Ac} (h:AcAt t k x):x.bare=SW t k:=by
 obtain ⟨a,b,c,d,e,f,g,i⟩:=h;unfold Ac.bare SW Rq.bare;rw [a,b,c,d,e,f,g,i]
def yN (t:ByteArray):Nat->Nat->List Ac×Nat
 | 0,k=>([],k)
 | f+1,k=>if whole t k then (SW t k::(yN t f (xx t k)).1,(yN t f (xx t k)).2) else ([],k)
theorem Zr.is {t:ByteArray}:∀ {l:List Ac} {k m f:Nat},Zr t k l m->l.length<=f->(l.length=f\/¬whole t m)->yN t f k=(l.map Ac.bare,m)
 | [],k,m,0,h,_,_=>by obtain rfl:m=k:=h;rfl
 | [],k,m,f+1,h,_,hw=>by
  obtain rfl:m=k:=h;rw [yN,if_neg (hw.resolve_left (by simp))];rfl
 | x::l,k,m,0,_,hl,_=>by simp at hl
 | x::l,k,m,f+1,h,hl,hw=>by
  rw [yN,if_pos h.1,Zr.is h.2.2 (by simp at hl;omega) (by simpa using hw),List.map_cons,h.2.1.is]
theorem GE {l m:QL} (h:zi l=zi m) (i:Nat):(qu l i).name=(qu m i).name/\(qu l i).parent=(qu m i).parent/\(qu l i).runs=(qu m i).runs:=by
 have e:(qu l i).bare=(qu m i).bare:=by rw [<-Z8,h,Z8]
 exact ⟨show (qu l i).bare.name=(qu m i).bare.name by rw [e],show (qu l i).bare.parent=(qu m i).bare.parent by rw [e],show (qu l i).bare.runs=(qu m i).bare.runs by rw [e]⟩
theorem GG {r s:Rq} (h:r.bare=s.bare):r.queue=s.queue/\r.fr=s.fr/\r.un=s.un/\r.kind=s.kind/\r.ps=s.ps :=
 ⟨show r.bare.queue=s.bare.queue by rw [h],show r.bare.fr=s.bare.fr by rw [h],show r.bare.un=s.bare.un by rw [h],show r.bare.kind=s.bare.kind by rw [h],show r.bare.ps=s.bare.ps by rw [h]⟩
theorem GD {b d:BL} (h:zg b=zg d) (i:Nat):(bk b i).id=(bk d i).id/\(bk b i).rq.bare=(bk d i).rq.bare/\(bk b i).bs=(bk d i).bs:=by
 have e:(bk b i).bare=(bk d i).bare:=by rw [<-xp,h,xp]
 exact ⟨show (bk b i).bare.id=(bk d i).bare.id by rw [e],show (bk b i).bare.rq=(bk d i).bare.rq by rw [e],show (bk b i).bare.bs=(bk d i).bare.bs by rw [e]⟩
theorem SV (w:World) (V W:Option Addr) (n z A:Nat) (l U:QL) (k:QsIn w V n z l) (C:QsIn w W n A U) (S:zi l=zi U) :
 zC 44 #[.slice V n z,.slice W n A] w fun e w'=>e=.returned (.bool true)/\Below w.heap.size w w':=by
 have ay:=k.le;have aw:=k.capb;have az:=C.le;have ax:=C.capb;have aB:((n:Int) != n)=false:=by simp
 by_cases Y:0<n
 ·obtain ⟨b1,t,rfl,c1⟩:=k.cells Y;obtain ⟨q,u,rfl,c2⟩:=C.cells Y;have aj:Zh (∀ (x:World),zL w x->∀ j,j<n->∃ s p F m D G E r,(x.cell? (zA b1 (t+j*3))=some (.string s)/\x.cell? (zA b1 (t+j*3+1))=some (zI p)/\x.cell? (zA b1 (t+j*3+2))=some (.slice F m D))/\(x.cell? (zA q (u+j*3))=some (.string s)/\x.cell? (zA q (u+j*3+1))=some (zI p)/\x.cell? (zA q (u+j*3+2))=some (.slice G m E))/\RunsIn x F m D r/\RunsIn x G m E r):=by
   intro x y j I;obtain ⟨L,M,N⟩:=c1 j I;obtain ⟨O,P,Q⟩:=c2 j I;obtain ⟨ar,au,aa⟩:=GE S j;have B:=(k.caps j I).later y;have J:=(C.caps j I).later y;have am:(qu l j).cn=(qu U j).cn:=B.len.trans ((congrArg List.length aa).trans J.len.symm);rw [ar] at L;rw [au] at M;rw [am] at N B;rw [aa] at B;exact ⟨_,_,_,_,_,_,_,_,⟨cell_later y L,cell_later y M,cell_later y N⟩,⟨cell_later y O,cell_later y P,cell_later y Q⟩,B,J⟩
  clear k C S c1 c2;go_enter Tryz.func44,Tryz.ntmps44;go_wp2_with fail
  go_loopw [5] (fun p wr=>∃ j:Nat,p=zI j/\j<=n/\zL w wr) (fun p _=>n-(intOf p).toNat)
  case atStart=>exact ⟨0,rfl,by omega,Below.refl _ _⟩
  obtain ⟨j,rfl,I,X⟩:=hrel;have R:=zh X;clear X;by_cases ap:j<n
  ·have aA:(j:Int)<n:=(by omega);obtain ⟨s,p,F,m,D,G,E,r,⟨L,M,N⟩,⟨O,P,Q⟩,B,J⟩:=aj.o wr R.o j ap;have ab:=zh L;have ad:=zh M;have ae:=zh N;have af:=zh O;have ag:=zh P;have ah:=zh Q;have ak:=zh fun x (y:zL wr x)=>Qt x F G m D E r (B.later y) (J.later y);clear L M N O P Q B J;go_wp2_with fail
   go_cut [54] (fun p av=>p=.bool false/\zL wr av)
   case first =>
    refine zV ((Tryz.f44.body.bind fun c=>yi c 6).getD #[]) (by kernel_rfl) [zl (.slice (zO b1 t) n z),zl (zI j),zl (.pointer (zO b1 (t+j*3))),zl (.pointer (zO b1 (t+j*3))),zl (.string s),zl (.slice (zO q u) n A),zl (zI j),zl (.pointer (zO q (u+j*3))),zl (.pointer (zO q (u+j*3))),zl (.string s),zl (.bool false),zl (.bool false),zl (.slice (zO b1 t) n z),zl (zI j),zl (.pointer (zO b1 (t+j*3))),zl (.pointer (zO b1 (t+j*3+1))),zl (zI p),zl (.slice (zO q u) n A),zl (zI j),zl (.pointer (zO q (u+j*3))),zl (.pointer (zO q (u+j*3+1))),zl (zI p),zl (.bool false),zl (.bool false),zl (.bool false),zl (.slice (zO b1 t) n z),zl (zI j),zl (.pointer (zO b1 (t+j*3))),zl (.pointer (zO b1 (t+j*3+2))),zl (.slice F m D),zl (.slice (zO q u) n A),zl (zI j),zl (.pointer (zO q (u+j*3))),zl (.pointer (zO q (u+j*3+2))),zl (.slice G m E),zl (.bool true),zl (.bool false),zl (.bool false)] [(11,false),(24,false)] (by kernel_rfl) (by kernel_rfl) (by kernel_rfl) ?hg ?hstep ?hfin
    case hg =>
     intro g hg v w h;simp only [List.mem_cons,List.not_mem_nil,or_false] at hg;rcases hg with rfl | rfl <;> exact h
    case hstep =>
     refine zc.cons 1 rfl ?_ ?_
     ·intro T w' f b a;have i:T.getD 0 undef=.slice (zO b1 t) n z:=b 0;exact zs (by go_simp) rfl
     refine zc.cons 2 rfl ?_ ?_
     ·intro T w' f b a;have i:T.getD 5 undef=zI j:=b 5;exact zs (by go_simp) rfl
     refine zc.cons 3 rfl ?_ ?_
     ·intro T w' f b a;have i:T.getD 17 undef=_:=a 0 17;have k:T.getD 18 undef=_:=a 1 18;exact zs (by go_simp) rfl
     refine zc.cons 4 rfl ?_ ?_
     ·intro T w' f b a;have i:T.getD 19 undef=_:=a 2 19;exact zs (by go_simp) rfl
     refine zc.cons 5 rfl ?_ ?_
     ·intro T w' f b a;have i:T.getD 20 undef=_:=a 3 20;have H:=cell_later f ab.o;exact zs (by go_simp) rfl
     refine zc.cons 6 rfl ?_ ?_
     ·intro T w' f b a;have i:T.getD 1 undef=.slice (zO q u) n A:=b 1;exact zs (by go_simp) rfl
     refine zc.cons 7 rfl ?_ ?_
     ·intro T w' f b a;have i:T.getD 5 undef=zI j:=b 5;exact zs (by go_simp) rfl
     refine zc.cons 8 rfl ?_ ?_
     ·intro T w' f b a;have i:T.getD 22 undef=_:=a 5 22;have k:T.getD 23 undef=_:=a 6 23;exact zs (by go_simp) rfl
     refine zc.cons 9 rfl ?_ ?_
     ·intro T w' f b a;have i:T.getD 24 undef=_:=a 7 24;exact zs (by go_simp) rfl
     refine zc.cons 10 rfl ?_ ?_
     ·intro T w' f b a;have i:T.getD 25 undef=_:=a 8 25;have H:=cell_later f af.o;exact zs (by go_simp) rfl
     refine zc.cons 11 rfl ?_ ?_
     ·intro T w' f b a;have i:T.getD 21 undef=_:=a 4 21;have k:T.getD 26 undef=_:=a 9 26;exact zs (by go_simp) rfl
     refine zc.cons 12 rfl ?_ ?_
     ·intro T w' f b a;have i:T.getD 27 undef=_:=a 10 27;exact zs (by go_simp) rfl
     refine zc.cons 13 rfl ?_ ?_
     ·intro T w' f b a;have i:T.getD 0 undef=.slice (zO b1 t) n z:=b 0;exact zs (by go_simp) rfl
     refine zc.cons 14 rfl ?_ ?_
     ·intro T w' f b a;have i:T.getD 5 undef=zI j:=b 5;exact zs (by go_simp) rfl
     refine zc.cons 15 rfl ?_ ?_
     ·intro T w' f b a;have i:T.getD 29 undef=_:=a 12 29;have k:T.getD 30 undef=_:=a 13 30;exact zs (by go_simp) rfl
     refine zc.cons 16 rfl ?_ ?_
     ·intro T w' f b a;have i:T.getD 31 undef=_:=a 14 31;exact zs (by go_simp) rfl
     refine zc.cons 17 rfl ?_ ?_
     ·intro T w' f b a;have i:T.getD 32 undef=_:=a 15 32;have H:=cell_later f ad.o;exact zs (by go_simp) rfl
     refine zc.cons 18 rfl ?_ ?_
     ·intro T w' f b a;have i:T.getD 1 undef=.slice (zO q u) n A:=b 1;exact zs (by go_simp) rfl
     refine zc.cons 19 rfl ?_ ?_
     ·intro T w' f b a;have i:T.getD 5 undef=zI j:=b 5;exact zs (by go_simp) rfl
     refine zc.cons 20 rfl ?_ ?_
     ·intro T w' f b a;have i:T.getD 34 undef=_:=a 17 34;have k:T.getD 35 undef=_:=a 18 35;exact zs (by go_simp) rfl
     refine zc.cons 21 rfl ?_ ?_
     ·intro T w' f b a;have i:T.getD 36 undef=_:=a 19 36;exact zs (by go_simp) rfl
     refine zc.cons 22 rfl ?_ ?_
     ·intro T w' f b a;have i:T.getD 37 undef=_:=a 20 37;have H:=cell_later f ag.o;exact zs (by go_simp) rfl
     refine zc.cons 23 rfl ?_ ?_
     ·intro T w' f b a;have i:T.getD 33 undef=_:=a 16 33;have k:T.getD 38 undef=_:=a 21 38;exact zs (by go_simp) rfl
     refine zc.cons 24 rfl ?_ ?_
     ·intro T w' f b a;have i:T.getD 28 undef=_:=a 11 28;have k:T.getD 39 undef=_:=a 22 39;exact zs (by go_simp) rfl
     refine zc.cons 25 rfl ?_ ?_
     ·intro T w' f b a;have i:T.getD 40 undef=_:=a 23 40;exact zs (by go_simp) rfl
     refine zc.cons 26 rfl ?_ ?_
     ·intro T w' f b a;have i:T.getD 0 undef=.slice (zO b1 t) n z:=b 0;exact zs (by go_simp) rfl
     refine zc.cons 27 rfl ?_ ?_
     ·intro T w' f b a;have i:T.getD 5 undef=zI j:=b 5;exact zs (by go_simp) rfl
     refine zc.cons 28 rfl ?_ ?_
     ·intro T w' f b a;have i:T.getD 42 undef=_:=a 25 42;have k:T.getD 43 undef=_:=a 26 43;exact zs (by go_simp) rfl
     refine zc.cons 29 rfl ?_ ?_
     ·intro T w' f b a;have i:T.getD 44 undef=_:=a 27 44;exact zs (by go_simp) rfl
     refine zc.cons 30 rfl ?_ ?_
     ·intro T w' f b a;have i:T.getD 45 undef=_:=a 28 45;have H:=cell_later f ae.o;exact zs (by go_simp) rfl
     refine zc.cons 31 rfl ?_ ?_
     ·intro T w' f b a;have i:T.getD 1 undef=.slice (zO q u) n A:=b 1;exact zs (by go_simp) rfl
     refine zc.cons 32 rfl ?_ ?_
     ·intro T w' f b a;have i:T.getD 5 undef=zI j:=b 5;exact zs (by go_simp) rfl
     refine zc.cons 33 rfl ?_ ?_
     ·intro T w' f b a;have i:T.getD 47 undef=_:=a 30 47;have k:T.getD 48 undef=_:=a 31 48;exact zs (by go_simp) rfl
     refine zc.cons 34 rfl ?_ ?_
     ·intro T w' f b a;have i:T.getD 49 undef=_:=a 32 49;exact zs (by go_simp) rfl
     refine zc.cons 35 rfl ?_ ?_
     ·intro T w' f b a;have i:T.getD 50 undef=_:=a 33 50;have H:=cell_later f ah.o;exact zs (by go_simp) rfl
     refine zc.cons 36 rfl ?_ ?_
     ·intro T w' f b a;have i:T.getD 46 undef=_:=a 29 46;have k:T.getD 51 undef=_:=a 34 51;refine Or.inr ⟨28,#[.slice F m D,.slice G m E],by go_simp,?_⟩;refine (ak.o w' f).mono ?_;rintro e aC ⟨rfl,ao⟩;exact ⟨_,rfl,rfl,yM ao⟩
     refine zc.cons 37 rfl ?_ ?_
     ·intro T w' f b a;have i:T.getD 52 undef=_:=a 35 52;exact zs (by go_simp) rfl
     refine zc.cons 38 rfl ?_ ?_
     ·intro T w' f b a;have i:T.getD 41 undef=_:=a 24 41;have k:T.getD 53 undef=_:=a 36 53;exact zs (by go_simp) rfl
     exact trivial
    intro T w' f aq b a;have al:T.getD 54 undef=.bool false:=a 37 54;rw [yb (tt 17 [false,false,false,false,false,false,false,false,false,false,false,false,false,false,false,false,false,false,false,false,false,false,false,false,false,false,false,false,false,false,false,false,false,false,false,false,false,false] 0) (by kernel_rfl) aq @b];obtain ⟨us,Z⟩:∃ us:Nat->Value,(fun d=>T.getD d undef)=us:=⟨_,rfl⟩;rw [Z];have an:us 54=.bool false:=(by rw [<-Z];exact al);apply_assumption;simp only [xj,tt,List.replicate,List.cons_append,List.nil_append];go_meet;exact ⟨an,f⟩
   obtain ⟨rfl,f⟩:=hcut;have ai:=zh (za R.o f);clear f;go_wp2;go_roundw
   case rel=>exact ⟨j+1,by go_num,by omega,ai.o⟩
   case measure=>simp [intOf];omega
  obtain rfl:j=n:=by omega
  go_wp2;go_ret;exact ⟨rfl,R.o⟩
 ·obtain rfl:n=0:=by omega
  clear k C S;go_enter Tryz.func44,Tryz.ntmps44;go_wp2;go_loop [5] (fun s=>s=zI 0) (fun _=>0)
  case atStart=>rfl
  subst hrel;go_wp2;go_ret;exact ⟨rfl,Below.refl _ _⟩
theorem I5 (w:World) (r s:Rq) {a:World} (b:a=(w.alloc (.cells #[zI r.queue,zI r.fr,zI r.un,zI r.kind,.slice r.pa r.pn r.pc] 24)).alloc (.cells #[zI s.queue,zI s.fr,zI s.un,zI s.kind,.slice s.pa s.pn s.pc] 24)):Ww a w.heap.size r/\Ww a (w.heap.size+1) s/\Below w.heap.size w a:=by
 subst b;refine ⟨(Below.heap_alloc _ _ _ (by simp)).trans (heap_alloc_new w _),?_,(zr _ _).alloc (by simp) _⟩;have:=heap_alloc_new (w.alloc (.cells (zR r) 24)) (.cells (zR s) 24);rw [World.size_alloc] at this;exact this
theorem OS (w:World) (q f u k:Int) (p r:Option Addr) (n c1 c2:Nat) (l:zd) (t:RunsIn w p n c1 l) (z:RunsIn w r n c2 l) :
 zC 39 #[.agg #[zI q,zI f,zI u,zI k,.slice p n c1],.agg #[zI q,zI f,zI u,zI k,.slice r n c2]] w fun e w'=>e=.returned (.bool true)/\Below w.heap.size w w':=by
 obtain ⟨S,P⟩:=qA (w.heap.size);obtain ⟨b,F⟩:=qB ((w.alloc (.cells #[zI q,zI f,zI u,zI k,.slice p n c1] 24)).alloc (.cells #[zI q,zI f,zI u,zI k,.slice r n c2] 24));obtain ⟨D,E,A⟩:=I5 w ⟨q,f,u,k,p,n,c1,l⟩ ⟨q,f,u,k,r,n,c2,l⟩ F;rw [P] at D E;have ae:=t.le;have W:=t.bound;have X:=t.capb;have af:=z.le;have Y:=z.capb;have M:Zh (0<n->∃ b1 G c H,p=zO b1 G/\r=zO c H/\(∀ i,i<n->b.cell? (zA b1 (G+i*2))=some (zI (zp l i))/\b.cell? (zA b1 (G+i*2+1))=some (zI (rN l i)))/\(∀ i,i<n->b.cell? (zA c (H+i*2))=some (zI (zp l i))/\b.cell? (zA c (H+i*2+1))=some (zI (rN l i)))):=by
  intro C;obtain ⟨b1,x,N,h⟩:=(t.later A).cells C;obtain ⟨c,y,O,m⟩:=(z.later A).cells C;exact ⟨b1,x,c,y,N,O,h,m⟩
 have I:=zh A;have L:=zh F;have U:=zh D;have V:=zh E;have ah:(q != q)=false:=by simp
 have Z:(f != f)=false:=by simp
 have ai:(u != u)=false:=by simp
 have ad:(k != k)=false:=by simp
 have ag:((n:Int) != n)=false:=by simp
 obtain ⟨aj,ak,al,am,Q⟩:=D.cells;obtain ⟨an,ao,ap,aq,R⟩:=E.cells;clear t z A D E F;by_cases C:0<n
 ·obtain ⟨b1,x,c,y,rfl,rfl,h,m⟩:=M.o C;go_enter Tryz.func39,Tryz.ntmps39;go_wp2;go_loopw [5] (fun s wr=>∃ j:Nat,s=zI j/\j<=n/\∃ d,wr=b.drewN d) (fun s _=>n-(intOf s).toNat)
  case atStart=>exact ⟨0,rfl,by omega,0,by rw [L.o];rfl⟩
  obtain ⟨j,rfl,ab,v⟩:=hrel;have J:Zh (∃ d,wr=b.drewN d):=v;have g:∀ a,wr.cell? a=b.cell? a:=by obtain ⟨d,rfl⟩:=v;exact fun a=>rfl
  clear v;have ar:wr.cell? (zA S 4)=some (.slice (zO b1 x) n c1):=(g _).trans Q;have au:wr.cell? (zA (S+1) 4)=some (.slice (zO c y) n c2):=(g _).trans R;by_cases B:j<n
  ·have aa:(j:Int)<n:=(by omega);have av:wr.cell? (zA b1 (x+j*2))=some (zI (zp l j)):=(g _).trans (h j B).1;have aw:wr.cell? (zA b1 (x+j*2+1))=some (zI (rN l j)):=(g _).trans (h j B).2;have ax:wr.cell? (zA c (y+j*2))=some (zI (zp l j)):=(g _).trans (m j B).1;have ay:wr.cell? (zA c (y+j*2+1))=some (zI (rN l j)):=(g _).trans (m j B).2;clear g h m;go_wp2;go_quiet (fail)
   go_wp2;go_roundw
   case rel=>exact ⟨j+1,by go_num,by omega,xM J _⟩
   case measure=>simp [intOf];omega
  obtain rfl:j=n:=by omega
  clear g h m;go_wp2;go_ret;refine ⟨rfl,?_⟩;obtain ⟨d,v⟩:=J.o;rw [v];exact za I.o (below_drewN b d)
 ·obtain rfl:n=0:=by omega
  clear M;go_enter Tryz.func39,Tryz.ntmps39;go_wp2;go_loopw [5] (fun s wr=>s=zI 0/\wr=b) (fun _ _=>0)
  case atStart=>exact ⟨rfl,L.o.symm⟩
  obtain ⟨rfl,rfl⟩:=hrel;go_wp2;go_ret;exact ⟨rfl,I.o⟩
theorem Qs (w:World) (r s:Rq) (j:zH w r) (k:zH w s) (l:r.bare=s.bare) :
 zC 39 #[.agg #[zI r.queue,zI r.fr,zI r.un,zI r.kind,.slice r.pa r.pn r.pc],.agg #[zI s.queue,zI s.fr,zI s.un,zI s.kind,.slice s.pa s.pn s.pc]] w fun e w'=>e=.returned (.bool true)/\Below w.heap.size w w':=by
 obtain ⟨f,g,h,i,b⟩:=GG l;have a:RunsIn w r.pa r.pn r.pc r.ps:=j;have d:RunsIn w s.pa s.pn s.pc s.ps:=k;have c:r.pn=s.pn:=a.len.trans ((congrArg List.length b).trans d.len.symm);rw [c,b] at a;rw [f,g,h,i,c];exact OS w s.queue s.fr s.un s.kind r.pa s.pa s.pn r.pc s.pc s.ps a d
theorem SU (w:World) (ag ah:Option Addr) (n B C:Nat) (l af:BL) (y:BksIn w ag n B l) (D:BksIn w ah n C af) (ae:zg l=zg af) :
 zC 45 #[.slice ag n B,.slice ah n C] w fun e w'=>e=.returned (.bool true)/\Below w.heap.size w w':=by
 have a1:=y.le;have aZ:=y.capb;have a2:=D.le;have a0:=D.capb;have a4:((n:Int) != n)=false:=by simp
 by_cases ao:0<n
 ·obtain ⟨b1,u,rfl,c1⟩:=y.cells ao;obtain ⟨t,x,rfl,c2⟩:=D.cells ao;have aI:Zh (∀ (k:World),zL w k->∀ j,j<n->∃ (J:Int) (z A:Rq) (H:Option Addr) (m F:Nat) (I:Option Addr) (G:Nat) (r:zd),(k.cell? (zA b1 (u+j*7))=some (zI J)/\k.cell? (zA b1 (u+j*7+1))=some (zI z.queue)/\k.cell? (zA b1 (u+j*7+2))=some (zI z.fr)/\k.cell? (zA b1 (u+j*7+3))=some (zI z.un)/\k.cell? (zA b1 (u+j*7+4))=some (zI z.kind)/\k.cell? (zA b1 (u+j*7+5))=some (.slice z.pa z.pn z.pc)/\k.cell? (zA b1 (u+j*7+6))=some (.slice H m F))/\(k.cell? (zA t (x+j*7))=some (zI J)/\k.cell? (zA t (x+j*7+1))=some (zI A.queue)/\k.cell? (zA t (x+j*7+2))=some (zI A.fr)/\k.cell? (zA t (x+j*7+3))=some (zI A.un)/\k.cell? (zA t (x+j*7+4))=some (zI A.kind)/\k.cell? (zA t (x+j*7+5))=some (.slice A.pa A.pn A.pc)/\k.cell? (zA t (x+j*7+6))=some (.slice I m G))/\RunsIn k H m F r/\RunsIn k I m G r/\zH k z/\zH k A/\z.bare=A.bare):=by
   intro k q j E;obtain ⟨L,N,O,P,Q,R,M⟩:=c1 j E;obtain ⟨S,U,V,W,X,Y,Z⟩:=c2 j E;obtain ⟨aV,aW,aq⟩:=GD ae j;have z:=(y.bites j E).later q;have A:=(D.bites j E).later q;have aR:(bk l j).bn=(bk af j).bn:=z.len.trans ((congrArg List.length aq).trans A.len.symm);rw [aV] at L;rw [aR] at M z;rw [aq] at z;exact ⟨_,_,_,_,_,_,_,_,_,⟨cell_later q L,cell_later q N,cell_later q O,cell_later q P,cell_later q Q,cell_later q R,cell_later q M⟩,⟨cell_later q S,cell_later q U,cell_later q V,cell_later q W,cell_later q X,cell_later q Y,cell_later q Z⟩,z,A,(y.rqs j E).later q,(D.rqs j E).later q,aW⟩
  clear y D ae c1 c2;go_enter Tryz.func45,Tryz.ntmps45;go_wp2_with fail
  go_loopw [5] (fun p wr=>∃ j:Nat,p=zI j/\j<=n/\zL w wr) (fun p _=>n-(intOf p).toNat)
  case atStart=>exact ⟨0,rfl,by omega,Below.refl _ _⟩
  obtain ⟨j,rfl,E,an⟩:=hrel;have aa:=zh an;clear an;by_cases aT:j<n
  ·have a3:(j:Int)<n:=(by omega);obtain ⟨J,z,A,H,m,F,I,G,r,⟨L,N,O,P,Q,R,M⟩,⟨S,U,V,W,X,Y,Z⟩,ai,aj,ak,al,am⟩:=aI.o wr aa.o j aT;have ar:=zh L;have aA:=zh S;have au:=zh N;have aB:=zh U;have av:=zh O;have aC:=zh V;have aw:=zh P;have aD:=zh W;have ax:=zh Q;have aE:=zh X;have ay:=zh R;have aF:=zh Y;have az:=zh M;have aG:=zh Z;have aJ:=zh fun k (q:zL wr k)=>SS k H I m F G r (ai.later q) (aj.later q);have aK:=zh fun k (q:zL wr k)=>Qs k z A (ak.later q) (al.later q) am;clear L S N U O V P W Q X R Y M Z ai aj ak al am;go_wp2_with fail
   go_cut [55] (fun p aY=>p=.bool false/\zL wr aY)
   case first =>
    refine zV ((Tryz.f45.body.bind fun c=>yi c 6).getD #[]) (by kernel_rfl) [zl (.slice (zO b1 u) n B),zl (zI j),zl (.pointer (zO b1 (u+j*7))),zl (.pointer (zO b1 (u+j*7))),zl (zI J),zl (.slice (zO t x) n C),zl (zI j),zl (.pointer (zO t (x+j*7))),zl (.pointer (zO t (x+j*7))),zl (zI J),zl (.bool false),zl (.bool false),zl (.slice (zO b1 u) n B),zl (zI j),zl (.pointer (zO b1 (u+j*7))),zl (.pointer (zO b1 (u+j*7+1))),zl (.agg (zR z)),zl (.slice (zO t x) n C),zl (zI j),zl (.pointer (zO t (x+j*7))),zl (.pointer (zO t (x+j*7+1))),zl (.agg (zR A)),zl (.bool true),zl (.bool false),zl (.bool false),zl (.bool false),zl (.slice (zO b1 u) n B),zl (zI j),zl (.pointer (zO b1 (u+j*7))),zl (.pointer (zO b1 (u+j*7+6))),zl (.slice H m F),zl (.slice (zO t x) n C),zl (zI j),zl (.pointer (zO t (x+j*7))),zl (.pointer (zO t (x+j*7+6))),zl (.slice I m G),zl (.bool true),zl (.bool false),zl (.bool false)] [(11,false),(25,false)] (by kernel_rfl) (by kernel_rfl) (by kernel_rfl) ?hg ?hstep ?hfin
    case hg =>
     intro g hg v w h;simp only [List.mem_cons,List.not_mem_nil,or_false] at hg;rcases hg with rfl | rfl <;> exact h
    case hstep =>
     refine zc.cons 1 rfl ?_ ?_
     ·intro T w' b f a;have i:T.getD 0 undef=.slice (zO b1 u) n B:=f 0;exact zs (by go_simp) rfl
     refine zc.cons 2 rfl ?_ ?_
     ·intro T w' b f a;have i:T.getD 5 undef=zI j:=f 5;exact zs (by go_simp) rfl
     refine zc.cons 3 rfl ?_ ?_
     ·intro T w' b f a;have i:T.getD 17 undef=_:=a 0 17;have y:T.getD 18 undef=_:=a 1 18;exact zs (by go_simp) rfl
     refine zc.cons 4 rfl ?_ ?_
     ·intro T w' b f a;have i:T.getD 19 undef=_:=a 2 19;exact zs (by go_simp) rfl
     refine zc.cons 5 rfl ?_ ?_
     ·intro T w' b f a;have i:T.getD 20 undef=_:=a 3 20;have ab:=cell_later b ar.o;exact zs (by go_simp) rfl
     refine zc.cons 6 rfl ?_ ?_
     ·intro T w' b f a;have i:T.getD 1 undef=.slice (zO t x) n C:=f 1;exact zs (by go_simp) rfl
     refine zc.cons 7 rfl ?_ ?_
     ·intro T w' b f a;have i:T.getD 5 undef=zI j:=f 5;exact zs (by go_simp) rfl
     refine zc.cons 8 rfl ?_ ?_
     ·intro T w' b f a;have i:T.getD 22 undef=_:=a 5 22;have y:T.getD 23 undef=_:=a 6 23;exact zs (by go_simp) rfl
     refine zc.cons 9 rfl ?_ ?_
     ·intro T w' b f a;have i:T.getD 24 undef=_:=a 7 24;exact zs (by go_simp) rfl
     refine zc.cons 10 rfl ?_ ?_
     ·intro T w' b f a;have i:T.getD 25 undef=_:=a 8 25;have ab:=cell_later b aA.o;exact zs (by go_simp) rfl
     refine zc.cons 11 rfl ?_ ?_
     ·intro T w' b f a;have i:T.getD 21 undef=_:=a 4 21;have y:T.getD 26 undef=_:=a 9 26;exact zs (by go_simp) rfl
     refine zc.cons 12 rfl ?_ ?_
     ·intro T w' b f a;have i:T.getD 27 undef=_:=a 10 27;exact zs (by go_simp) rfl
     refine zc.cons 13 rfl ?_ ?_
     ·intro T w' b f a;have i:T.getD 0 undef=.slice (zO b1 u) n B:=f 0;exact zs (by go_simp) rfl
     refine zc.cons 14 rfl ?_ ?_
     ·intro T w' b f a;have i:T.getD 5 undef=zI j:=f 5;exact zs (by go_simp) rfl
     refine zc.cons 15 rfl ?_ ?_
     ·intro T w' b f a;have i:T.getD 29 undef=_:=a 12 29;have y:T.getD 30 undef=_:=a 13 30;exact zs (by go_simp) rfl
     refine zc.cons 16 rfl ?_ ?_
     ·intro T w' b f a;have i:T.getD 31 undef=_:=a 14 31;exact zs (by go_simp) rfl
     refine zc.cons 17 rfl ?_ ?_
     ·intro T w' b f a;have i:T.getD 32 undef=_:=a 15 32;have aL:=cell_later b au.o;have aM:=cell_later b av.o;have aN:=cell_later b aw.o;have aO:=cell_later b ax.o;have aP:=cell_later b ay.o;exact zs (by go_simp) rfl
     refine zc.cons 18 rfl ?_ ?_
     ·intro T w' b f a;have i:T.getD 1 undef=.slice (zO t x) n C:=f 1;exact zs (by go_simp) rfl
     refine zc.cons 19 rfl ?_ ?_
     ·intro T w' b f a;have i:T.getD 5 undef=zI j:=f 5;exact zs (by go_simp) rfl
     refine zc.cons 20 rfl ?_ ?_
     ·intro T w' b f a;have i:T.getD 34 undef=_:=a 17 34;have y:T.getD 35 undef=_:=a 18 35;exact zs (by go_simp) rfl
     refine zc.cons 21 rfl ?_ ?_
     ·intro T w' b f a;have i:T.getD 36 undef=_:=a 19 36;exact zs (by go_simp) rfl
     refine zc.cons 22 rfl ?_ ?_
     ·intro T w' b f a;have i:T.getD 37 undef=_:=a 20 37;have aL:=cell_later b aB.o;have aM:=cell_later b aC.o;have aN:=cell_later b aD.o;have aO:=cell_later b aE.o;have aP:=cell_later b aF.o;exact zs (by go_simp) rfl
     refine zc.cons 23 rfl ?_ ?_
     ·intro T w' b f a;have i:T.getD 33 undef=_:=a 16 33;have y:T.getD 38 undef=_:=a 21 38;refine Or.inr ⟨39,#[.agg (zR z),.agg (zR A)],by go_simp,?_⟩;refine (aK.o w' b).mono ?_;rintro e aX ⟨rfl,ad⟩;exact ⟨_,rfl,rfl,ad⟩
     refine zc.cons 24 rfl ?_ ?_
     ·intro T w' b f a;have i:T.getD 39 undef=_:=a 22 39;exact zs (by go_simp) rfl
     refine zc.cons 25 rfl ?_ ?_
     ·intro T w' b f a;have i:T.getD 28 undef=_:=a 11 28;have y:T.getD 40 undef=_:=a 23 40;exact zs (by go_simp) rfl
     refine zc.cons 26 rfl ?_ ?_
     ·intro T w' b f a;have i:T.getD 41 undef=_:=a 24 41;exact zs (by go_simp) rfl
     refine zc.cons 27 rfl ?_ ?_
     ·intro T w' b f a;have i:T.getD 0 undef=.slice (zO b1 u) n B:=f 0;exact zs (by go_simp) rfl
     refine zc.cons 28 rfl ?_ ?_
     ·intro T w' b f a;have i:T.getD 5 undef=zI j:=f 5;exact zs (by go_simp) rfl
     refine zc.cons 29 rfl ?_ ?_
     ·intro T w' b f a;have i:T.getD 43 undef=_:=a 26 43;have y:T.getD 44 undef=_:=a 27 44;exact zs (by go_simp) rfl
     refine zc.cons 30 rfl ?_ ?_
     ·intro T w' b f a;have i:T.getD 45 undef=_:=a 28 45;exact zs (by go_simp) rfl
     refine zc.cons 31 rfl ?_ ?_
     ·intro T w' b f a;have i:T.getD 46 undef=_:=a 29 46;have ab:=cell_later b az.o;exact zs (by go_simp) rfl
     refine zc.cons 32 rfl ?_ ?_
     ·intro T w' b f a;have i:T.getD 1 undef=.slice (zO t x) n C:=f 1;exact zs (by go_simp) rfl
     refine zc.cons 33 rfl ?_ ?_
     ·intro T w' b f a;have i:T.getD 5 undef=zI j:=f 5;exact zs (by go_simp) rfl
     refine zc.cons 34 rfl ?_ ?_
     ·intro T w' b f a;have i:T.getD 48 undef=_:=a 31 48;have y:T.getD 49 undef=_:=a 32 49;exact zs (by go_simp) rfl
     refine zc.cons 35 rfl ?_ ?_
     ·intro T w' b f a;have i:T.getD 50 undef=_:=a 33 50;exact zs (by go_simp) rfl
     refine zc.cons 36 rfl ?_ ?_
     ·intro T w' b f a;have i:T.getD 51 undef=_:=a 34 51;have ab:=cell_later b aG.o;exact zs (by go_simp) rfl
     refine zc.cons 37 rfl ?_ ?_
     ·intro T w' b f a;have i:T.getD 47 undef=_:=a 30 47;have y:T.getD 52 undef=_:=a 35 52;refine Or.inr ⟨27,#[.slice H m F,.slice I m G],by go_simp,?_⟩;refine (aJ.o w' b).mono ?_;rintro e aX ⟨rfl,ad⟩;exact ⟨_,rfl,rfl,yM ad⟩
     refine zc.cons 38 rfl ?_ ?_
     ·intro T w' b f a;have i:T.getD 53 undef=_:=a 36 53;exact zs (by go_simp) rfl
     refine zc.cons 39 rfl ?_ ?_
     ·intro T w' b f a;have i:T.getD 42 undef=_:=a 25 42;have y:T.getD 54 undef=_:=a 37 54;exact zs (by go_simp) rfl
     exact trivial
    intro T w' b aU f a;have aQ:T.getD 55 undef=.bool false:=a 38 55;rw [yb (tt 17 [false,false,false,false,false,false,false,false,false,false,false,false,false,false,false,false,false,false,false,false,false,false,false,false,false,false,false,false,false,false,false,false,false,false,false,false,false,false,false] 0) (by kernel_rfl) aU @f];obtain ⟨us,ap⟩:∃ us:Nat->Value,(fun d=>T.getD d undef)=us:=⟨_,rfl⟩;rw [ap];have aS:us 55=.bool false:=(by rw [<-ap];exact aQ);apply_assumption;simp only [xj,tt,List.replicate,List.cons_append,List.nil_append];go_meet;exact ⟨aS,b⟩
   obtain ⟨rfl,b⟩:=hcut;have aH:=zh (za aa.o b);clear b;go_wp2;go_roundw
   case rel=>exact ⟨j+1,by go_num,by omega,aH.o⟩
   case measure=>simp [intOf];omega
  obtain rfl:j=n:=by omega
  go_wp2;go_ret;exact ⟨rfl,aa.o⟩
 ·obtain rfl:n=0:=by omega
  clear y D ae;go_enter Tryz.func45,Tryz.ntmps45;go_wp2;go_loop [5] (fun s=>s=zI 0) (fun _=>0)
  case atStart=>rfl
  subst hrel;go_wp2;go_ret;exact ⟨rfl,Below.refl _ _⟩
theorem I7 (w:World) (a b c d f g h i:Value) {e:World} (j:e=(w.alloc (.cells #[a,b,c,d] 40)).alloc (.cells #[f,g,h,i] 40)):zj e w.heap.size a b c d/\zj e (w.heap.size+1) f g h i/\Below w.heap.size w e:=by
 subst j;refine ⟨(Below.heap_alloc _ _ _ (by simp)).trans (heap_alloc_new w _),?_,(zr _ _).alloc (by simp) _⟩;have:=zj.new (w.alloc (.cells #[a,b,c,d] 40)) f g h i;rw [World.size_alloc] at this;exact this
theorem Sh (w:World) (c n:Int) (p:Option Addr) (f r:Nat) (l:QL) (g:Option Addr) (d j:Nat) (b:BL) (h:zY w p f r l g d j b) (q:Option Addr) (s:Nat) (A:QL) (i:Option Addr) (k:Nat) (x:BL) (y:zY w q f s A i d k x) (D:zi l=zi A) (a:zg b=zg x) :
 zC 18 #[.agg (zS c n p f r g d j),.agg (zS c n q f s i d k)] w fun e w'=>e=.returned (.bool true)/\Below w.heap.size w w':=by
 obtain ⟨S,M⟩:=qA (w.heap.size);obtain ⟨v,z⟩:=qB ((w.alloc (.cells (zS c n p f r g d j) 40)).alloc (.cells (zS c n q f s i d k) 40));obtain ⟨t,u,m⟩:=I7 w _ _ _ _ _ _ _ _ z;rw [M] at t u;have L:=zh (SV v p q f r s l A (h.1.later m) (y.1.later m) D);have J:=zh fun X (C:zL w X)=>SU X g i d j k b x (h.2.later C) (y.2.later C) a;have E:=zh m;have G:=zh z;have H:=zh t;have I:=zh u;have Z:(c==c)=true:=by simp
 have aa:(n==n)=true:=by simp
 obtain ⟨N,O,P,Q⟩:=t.cells;obtain ⟨R,U,V,W⟩:=u.cells;clear h y m t u z D a;go_enter Tryz.func18,Tryz.ntmps18;go_wp2_with fail
 rw [<-G.o];refine L.o.mono ?_;rintro e Y ⟨rfl,a⟩;have B:=zh (za E.o a);obtain ⟨N,O,P,Q⟩:=(H.o.later a).cells;obtain ⟨R,U,V,W⟩:=(I.o.later a).cells;clear a;go_wp2_with fail
 refine (J.o Y B.o).mono ?_;rintro e ab ⟨rfl,a⟩;have F:=zh (za B.o a);clear a;go_wp2;go_ret;exact ⟨rfl,F.o⟩
end Go.Proofs.YtckpdfkobdgjeaaGreatDoor
