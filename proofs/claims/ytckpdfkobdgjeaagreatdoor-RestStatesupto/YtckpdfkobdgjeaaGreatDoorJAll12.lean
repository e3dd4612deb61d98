/- Several texts in one: CutL, CutM, CutN. -/
import Derived.Test.YtckpdfkobdgjeaaGreatDoorJAll11
namespace Go.Proofs.YtckpdfkobdgjeaaGreatDoor
set_option maxRecDepth 100000
set_option maxHeartbeats 4000000
open Go.RowKit
set_option linter.unusedSectionVars false
variable [Inhabited Mk]
theorem Fv {f:zd} (b:zW f) {t:Int} (a:0<=t) (c:t<48):Yv f t=(zn f t.toNat,0):=by
 unfold Yv;rw [if_pos (zX.2 b),if_pos (by simp [yW];omega)];unfold zn;rw [Int.toNat_of_nonneg a]
theorem IF {l:QL} {b:BL} (h:Clean l b) {q:Nat} (d:q<l.length):zW (UA l b q)/\∀ t:Nat,t<48->zn (UA l b q) t=zn (qu l q).runs t-xh l b q t b.length:=by
 obtain ⟨c1,c2⟩:=Yx h.tree (p:=q) d;obtain ⟨g,c⟩:=ZT h b.length (Nat.le_refl _) q;have i:=h.few;obtain ⟨e,_,f⟩:=Sr (jn:=fun x y=>x-y) c1 g (fun t a=>by have:=c2 t;have:=c t a;omega);refine ⟨e,fun t a=>?_⟩;show zn (xl (fun x y=>x-y) _ _).1 t=_;rw [f t a,(c t a).1]
theorem UL {l:QL} {b:BL} (h:Clean l b) {q:Nat} (d:q<l.length) {t:Int} (a:0<=t) (c:t<48):yw l b t q=true↔zn (qu l q).runs t.toNat<xh l b q t.toNat b.length:=by
 obtain ⟨e,f⟩:=IF h d;unfold yw;rw [Fv e a c,decide_eq_true_iff];show zn (UA l b q) t.toNat<0↔_;rw [f _ (by omega)];omega
theorem IU {l:QL} {b:BL} (h:Clean l b) {q:Nat} (d:q<l.length) {t:Int} (a:0<=t) (c:t<48):yw l b t q=false↔xh l b q t.toNat b.length<=zn (qu l q).runs t.toNat:=by
 rw [<-Bool.not_eq_true,UL h d a c];omega
theorem XX {l:QL} {b:BL} (h:Clean l b) {q:Nat} (a:q<l.length) {t:Int} (c:0<=t) (d:t<48) (f:yw l b t q=true):0<b.length:=by
 have e:=(UL h a c d).1 f;have g:=((Yx h.tree (p:=q) a).2 t.toNat).1;cases b with
 | nil=>simp [xh] at e;omega
 | cons _ _=>simp
theorem WT (l:QL) (b:BL) (t q:Int):∀ n,0<n->wC l b t q n<n
 | 0,h=>by omega
 | n+1,_=>by
  rw [wC]
  split
  ·exact Nat.lt_succ_self n
  by_cases e:n=0
  ·subst e;exact Nat.zero_lt_one
  exact Nat.lt_succ_of_lt (WT l b t q n (by omega))
def wU (b:BL) (i:Nat):BL:=b.take i++b.drop (i+1)
theorem XS {b:BL} {i:Nat} (h:i<b.length):(wU b i).length=b.length-1:=by simp [wU];omega
theorem Pe {b:BL} {i:Nat} {x:Bk} (h:x∈wU b i):x∈b:=wK h
theorem Nq {b:BL} {i:Nat} {x y:Bk} (h:y∈yL b i x):y=x\/y∈b:=by
 unfold yL at h;rw [List.mem_append,List.mem_cons] at h;rcases h with h | h | h
 ·exact Or.inr (List.mem_of_mem_take h)
 ·exact Or.inl h
 exact Or.inr (List.mem_of_mem_drop h)
theorem UO {b:BL} {x y:Bk} (h:y∈Zj b x):y=x\/y∈b:=Nq h
theorem Z7 (b:BL) (x:Bk):(Zj b x).length=b.length+1:=YH x (Oa b x.id b.length)
inductive Lit (c:Int) (l:QL) (b0:BL):BL->BL->Prop
 | start:Lit c l b0 b0 []
 | step {b aw:BL} {t:Int} {q:Nat}:Lit c l b0 b aw->XO c l b l.length t q true->Lit c l b0 (wU b (wC l b t q b.length)) (Zj aw (bk b (wC l b t q b.length)))
theorem Lit.clean {c:Int} {l:QL} {d b f:BL} (h:Lit c l d b f) (n:Clean l d) (v:0<=c):Clean l b/\(∀ x∈b,x∈d)/\(∀ x∈f,x∈d)/\b.length+f.length=d.length:=by
 induction h with
 | start=>exact ⟨n,fun x h=>h,fun x h=>absurd h (List.not_mem_nil),by simp⟩
 | @step b f t q _ hf ih =>
  obtain ⟨g,j,m,w⟩:=ih;rcases hf with ⟨e,_⟩ | ⟨_,z,u,k,o,y,p,_,_⟩
  ·cases e
  have s:q=k:=by omega
  subst s;have r:=XX g o (by omega) u p;have i:=WT l b t q b.length r;refine ⟨Tc g (by rw [XS i];have:=g.few;omega) (fun x a=>Pe a),fun x a=>j x (Pe a),fun x a=>?_,?_⟩
  ·rcases UO a with rfl | a
   ·exact j _ (yx i)
   exact m x a
  rw [XS i,Z7];omega
def Ui (g:Nat) (w:World):World:=w.putObj g (.deferred none)
theorem Vb (g:Nat) (w:World):(Ui g w).heap.size=w.heap.size:=World.putObj_size
theorem Et {g:Nat} {w:World} {p:Addr} {v:Value} (h:(Ui g w).cell? p=some v):w.heap[p.block]?=(Ui g w).heap[p.block]?:=by
 by_cases e:p.block=g
 ·exfalso;unfold World.cell? at h;by_cases a:g<w.heap.size
  ·rw [e,show (Ui g w).heap[g]?=some (.deferred none) from World.putObj_heap_same a] at h;cases h
  rw [e,Array.getElem?_eq_none (by rw [Vb];omega)] at h;cases h
 exact (World.putObj_heap_other e).symm
theorem Va {g:Nat} {w:World} {p:Addr} {v:Value} (h:(Ui g w).cell? p=some v):w.cell? p=some v:=(World.cell?_of_block (w:=Ui g w) (w':=w) (Et h)).trans h
theorem RunsIn.on {g:Nat} {w:World} {a:Option Addr} {n c:Nat} {l:zd} (h:RunsIn (Ui g w) a n c l):RunsIn w a n c l:=h.of_away fun e b k f=>by
 obtain ⟨j,m,d,i⟩:=h.cells e;rw [f] at d;cases d
 exact Et (i 0 e).1
theorem QsIn.on {g:Nat} {w:World} {a:Option Addr} {n k:Nat} {l:QL} (h:QsIn (Ui g w) a n k l):QsIn w a n k l:=by
 refine ⟨h.len,h.le,h.capb,fun e=>?_,fun i d=>(h.caps i d).on,h.names,fun e b j f=>(h.thaw e b j f).of_eq ?_⟩
 ·obtain ⟨b,j,f,c⟩:=h.cells e;exact ⟨b,j,f,fun i d=>⟨Va (c i d).1,Va (c i d).2.1,Va (c i d).2.2⟩⟩
 obtain ⟨o,p,m,c⟩:=h.cells e;rw [f] at m;cases m
 exact Et (c 0 e).1
theorem Yo {g:Nat} {w a:World} (h:w.grownBy a (some g)):Below (Ui g w).heap.size (Ui g w) (Ui g a):=by
 refine ⟨h.os,h.tape,h.output,by rw [Vb,Vb];exact h.size,fun k b=>?_⟩;rw [Vb] at b;by_cases e:k=g
 ·subst e;rw [show (Ui k a).heap[k]?=some (.deferred none) from World.putObj_heap_same (Nat.lt_of_lt_of_le b h.size),show (Ui k w).heap[k]?=some (.deferred none) from World.putObj_heap_same b]
 rw [show (Ui g a).heap[k]?=a.heap[k]? from World.putObj_heap_other e,show (Ui g w).heap[k]?=w.heap[k]? from World.putObj_heap_other e];exact h.block k b (fun c=>e (Option.some.inj c))
def wT (w:World) (x:Bk):Prop:=zH w x.rq/\RunsIn w x.ba x.bn x.bc x.bs
theorem wT.on {g:Nat} {w:World} {x:Bk} (h:wT (Ui g w) x):wT w x:=⟨RunsIn.on h.1,RunsIn.on h.2⟩
theorem wT.later {w w':World} {x:Bk} (h:wT w x) (a:Below w.heap.size w w'):wT w' x:=⟨zH.later h.1 a,h.2.later a⟩
theorem S3 {d:World} {B g m k:Nat} {b:BL} (f:m=b.length) (h:d.ownsRow B 60 7 (.slice (zO g 0) m k) m (ze b)) (a:∀ x∈b,wT d x):BksIn d (zO g 0) m k b:=by
 obtain ⟨n,o,c⟩:=VH f h;have l:Ed d g:=by
  rcases h.2 with ⟨e,_⟩ | ⟨q,p,j,e,_,hg,_⟩
  ·cases e
  cases e;exact Or.inr ⟨j,_,hg⟩
 exact ⟨f,n,o,fun _=>⟨g,0,rfl,fun i a=>⟨c i a 0 _ rfl,c i a 1 _ rfl,c i a 2 _ rfl,c i a 3 _ rfl,c i a 4 _ rfl,c i a 5 _ rfl,c i a 6 _ rfl⟩⟩,fun i h=>(a _ (yx (by omega))).1,fun i h=>(a _ (yx (by omega))).2,fun _ b r e=>by cases e;exact l⟩
theorem Mi (w:World) (B g m k:Nat) (b:BL) (i:Nat) (s:i<m) (d:m=b.length) (v:w.ownsRow B 60 7 (.slice (zO g 0) m k) m (ze b)) :
 zC 91 #[.slice (zO g 0) m k,zI i,zI ((i:Int)+1)] w fun e w'=>e=.returned (.slice (zO g 0) (m-1) k)/\w'.ownsRow B 60 7 (.slice (zO g 0) (m-1) k) (m-1) (ze (wU b i))/\w.grownBy w' (some g):=by
 rcases v.2 with ⟨e,_⟩ | ⟨A,z,f,e,q,hg,t,c,r,x⟩
 ·cases e
 ·simp only [Value.slice.injEq,Option.some.injEq,Addr.mk.injEq,and_true] at e;obtain ⟨rfl,_,rfl⟩:=e;refine (SB w g m k f b i s d t (by unfold maxLen at c;omega) hg r x).mono ?_;rintro e w' ⟨rfl,⟨h,j,l,n⟩,o,C,p⟩;have a:=p 0 (Nat.zero_le _);refine ⟨rfl,⟨by rw [zE,XS (by omega),d],.inr ⟨g,k,h,rfl,q,j,by omega,c,l,n⟩⟩,a.os,a.tape,a.output,by omega,fun y _ u=>o y (fun e=>u (by rw [e]))⟩
theorem zj.not_row {a:World} {S:Nat} {p q r s:Value} (h:zj a S p q r s) {B z m:Nat} {v:Value} {f:List Value} (d:a.ownsRow B 60 z v m f):some S≠v.ownBlock:=by
 rcases d.2 with ⟨rfl,_⟩ | ⟨g,i,j,rfl,_,hg,_⟩
 ·simp [Value.ownBlock]
 intro e;have b:S=g:=by simpa [Value.ownBlock] using e
 subst b;have c:a.heap[S]?=_:=h;rw [c] at hg;cases hg
theorem TU {w a D:World} {row:Option Nat} (h:w.grownBy a row) (hg:a.grownBy D row):w.grownBy D row :=
 ⟨hg.os.trans h.os,hg.tape.trans h.tape,hg.output.trans h.output,Nat.le_trans h.size hg.size,fun k b c=>(hg.block k (Nat.lt_of_lt_of_le b h.size) c).trans (h.block k b c)⟩
theorem YF {w a D:World} {row:Option Nat} (h:w.grownBy a row) (hg:Below a.heap.size a D):w.grownBy D row :=
 ⟨hg.os.trans h.os,hg.tape.trans h.tape,hg.output.trans h.output,Nat.le_trans h.size hg.size,fun k b c=>(hg.block k (Nat.lt_of_lt_of_le b h.size)).trans (h.block k b c)⟩
theorem zj.set3 {w:World} {S:Nat} {p q r s:Value} (h:zj w S p q r s) (v:Value):zj (w.setCell (zA S 3) v) S p q r v:=by
 have:=heap_setCell_same w S 3 _ _ v h;exact this
structure LInv (w wr:World) (c n:Int) (ta:Option Addr) (tn tc:Nat) (l:QL) (B S gb k0:Nat) (b0 b aw:BL) (aa:Option Addr) (ka:Nat):Prop where
 lit:Lit c l b0 b aw
 box:zj wr S (zI c) (zI n) (.slice ta tn tc) (.slice (zO gb 0) b.length k0)
 res:zj wr (S+1) (zI 0) (zI 0) zN zN
 row:wr.ownsRow B 60 7 (.slice (zO gb 0) b.length k0) b.length (ze b)
 away:wr.ownsRow S 60 7 (.slice aa aw.length ka) aw.length (ze aw)
 grown:w.grownBy wr (some gb)
def FR (w:World) (c n:Int) (ta:Option Addr) (tn tc:Nat) (l:QL) (B S gb k0:Nat) (b0:BL) (p:Value) (wr:World):Prop:=∃ aa ka b aw,p=.slice aa (List.length aw) ka/\LInv w wr c n ta tn tc l B S gb k0 b0 b aw aa ka
def Nu (S:Nat) (wr:World):Nat:=match wr.cell? (zA S 3) with
 | some (.slice _ m _)=>m
 | _=>0
def JV (w w':World) (e:Ending) (c n:Int) (ta:Option Addr) (tn tc:Nat) (l:QL) (B gb k0:Nat) (b0:BL):Prop:=∃ b aw aa ka,e=.returned (.tuple #[.agg (zS c n ta tn tc (zO gb 0) (List.length b) k0),.slice aa (List.length aw) ka])/\Lit c l b0 b aw/\(∀ u,c<=u->u<48->∀ q,q<tn->yw l b u q=false)/\w'.ownsRow B 60 7 (.slice (zO gb 0) b.length k0) b.length (ze b)/\w'.ownsRow w.heap.size 60 7 (.slice aa aw.length ka) aw.length (ze aw)/\w.grownBy w' (some gb)
theorem Nw (w:World) (c n:Int) (m:Option Addr) (g p:Nat) (l:QL) (B a d ab:Nat) (z:BL) (bQ:ab=z.length) (a3:Clean l z) (aW:0<=c) (aX:c<=48) (aC:QsIn (Ui a w) m g p l) (a6:∀ x∈z,wT (Ui a w) x) (aD:w.ownsRow B 60 7 (.slice (zO a 0) ab d) ab (ze z)) :
 zC 95 #[.agg (zS c n m g p (zO a 0) ab d)] w fun e w'=>JV w w' e c n m g p l B a d z:=by
 subst bQ;obtain ⟨S,aZ⟩:=qA (w.heap.size);obtain ⟨ai,au⟩:=qB ((w.alloc (.cells (zS c n m g p (some ⟨a,0,none⟩) z.length d) 40)).alloc (.cells zZ 40));obtain ⟨aH,aI,F,bm⟩:=ZK w _ _ _ _ au;rw [aZ] at aH aI bm;have b1:a<S:=by have:=(aD.lt a rfl).2;omega
 have bE:Zh (LInv w ai c n m g p l B S a d z z [] none 0):=zh ⟨Lit.start,aH,aI,zy aD F,World.ownsRow_nil _ _ _ _,⟨F.os,F.tape,F.output,F.size,fun k bO _=>F.block k bO⟩⟩;have bG:=zh au;have bn:=aC.len;have bv:=zh a6;have bD:=zh aC;have aM:=zh a3;have aU:=zh bn;clear aH aI F bm au aD a6 aC a3 bn;go_enter Tryz.func95,Tryz.ntmps95;go_wp2;go_loopw [4] (FR w c n m g p l B S a d z) (fun _ wr=>Nu S wr)
 case atStart=>exact ⟨none,0,z,[],rfl,by rw [<-bG.o];exact bE.o⟩
 case round =>
  obtain ⟨G,N,b,s,rfl,E⟩:=hrel;have r:=zh E;obtain ⟨ax,bi,bj,a9⟩:=E.lit.clean aM.o aW;obtain ⟨aV,c1,c2,c3⟩:=E.box.cells;have ar:QsIn wr m g p l:=(bD.o.later (Yo E.grown)).on;have aq:BksIn wr (zO a 0) b.length d b:=S3 rfl E.row (fun x bS=>((bv.o x (bi x bS)).later (Yo E.grown)).on);have bJ:=zh (Q8 wr c n m g p l _ b.length d b ⟨ar,aq⟩ (Xk ax) aW aX);have ae:=zh ax;have bA:=zh a9;have bF:=zh (show zY wr m g p l _ _ _ b from ⟨ar,aq⟩);have bT:=zh bj;have a8:Nu S wr=b.length:=by unfold Nu;rw [c3]
  have bz:=zh a8;clear E ax bi bj a9 ar aq a8;go_wp2_with fail
  refine bJ.o.mono ?_;rintro e P ⟨t,q,f,rfl,aw,A⟩;cases f with
  | false =>
   have be:∀ u,c<=u->u<48->∀ k,k<g->yw l b u k=false:=by
    rcases aw with ⟨_,_,_,h⟩ | ⟨e,_⟩
    ·exact h
    cases e
   have bB:=zh be;obtain ⟨H,I,J,L⟩:=(r.o.box.later A).cells;have R:=zh (r.o.res.later A);have aP:=zh (zy r.o.row A);have aJ:=zh (zy r.o.away A);have br:=zh (YF r.o.grown A);obtain ⟨b5,b6,b7,b8⟩:=R.o.cells;have b9:∀ k,P.frozen? (zA (S+1) k)=false:=fun k=>frozen_of_row P (S+1) k _ _ R.o;clear aw be A aV c1 c2 c3;go_wp2;have bl:=zk P (S+1) 40 _ _ _ _ (zI c) (zI n) (.slice m g p) (.slice (zO a 0) b.length d) R.o;refine bodyPost_ret (v:=.tuple #[.agg (zS c n m g p (zO a 0) b.length d),.slice G s.length N]) (zt Tryz.results95 _ _ (S+1) 40 (zS c n m g p (zO a 0) b.length d) (0,0) _ rfl bl.1 Tryz.underlying40 rfl (by kernel_rfl)) rfl ?_;have ay:P.grownBy ((((P.setCell (zA (S+1) 0) (zI c)).setCell (zA (S+1) 1) (zI n)).setCell (zA (S+1) 2) (.slice m g p)).setCell (zA (S+1) 3) (.slice (zO a 0) b.length d)) (some (S+1)):=⟨rfl,rfl,rfl,by simp [World.setCell],fun k _ aA=>bl.2 k (fun e=>aA (by rw [e]))⟩;refine ⟨b,s,G,N,rfl,r.o.lit,bB.o,aP.o.kept ay (Or.inr fun e=>R.o.not_row aP.o e.symm),?_,xE br.o ay (fun j e=>by cases e;omega)⟩;rw [aZ];exact aJ.o.kept ay (Or.inr fun e=>R.o.not_row aJ.o e.symm)
  | true =>
   rcases aw with ⟨e,_⟩ | ⟨_,bo,aF,O,bP,rfl,aB,a4,a5⟩
   ·cases e
   have ba:O<l.length:=(by have:=aU.o;omega);have bh:=XX ae.o ba (by omega) aF aB;have y:=WT l b t O b.length bh;have bq:Zh (XO c l b l.length t O true):=zh (Or.inr ⟨rfl,bo,aF,O,ba,rfl,aB,a4,fun u bL bM i y=>a5 u bL bM i (by have:=aU.o;omega)⟩);obtain ⟨i,az⟩:=qA (wC l b t O b.length);have ah:=IE P c n m g p l _ b.length d b (bF.o.later A) ae.o bh t O bP;rw [az] at ah y;have bw:=zh ah;have bu:=zh az;have b0:b.length<=12:=ae.o.few;have bN:s.length<=12:=(by have:=aM.o.few;have:=bA.o;omega);have bp:=zh A;obtain ⟨H,I,J,L⟩:=(r.o.box.later A).cells;clear aB a4 a5 bo aF A ah az aV c1 c2 c3;go_wp2_with fail
   refine bw.o.mono ?_;rintro e aG ⟨rfl,a2⟩;have M:zL wr aG:=za bp.o a2;have aQ:=zh (zy r.o.row M);have Q:=zh (zy r.o.away M);have aN:=zh (YF r.o.grown M);have Z:=zh (r.o.box.later M);have af:=zh (r.o.res.later M);obtain ⟨b3,b4,D⟩:=VH rfl aQ.o;obtain ⟨X,av⟩:=qA (bk b i);have aj:=D i y 0 _ rfl;have ak:=D i y 1 _ rfl;have al:=D i y 2 _ rfl;have am:=D i y 3 _ rfl;have an:=D i y 4 _ rfl;have ao:=D i y 5 _ rfl;have ap:=D i y 6 _ rfl;rw [av] at aj ak al am an ao ap;simp only [Nat.zero_add,Nat.add_zero] at aj ak al am an ao ap;have bH:=zh av;have bR:S<=aG.heap.size:=(by have:=aN.o.size;omega);have bK:=zh (LZ aG S s.length N G s X rfl bN Q.o bR);have b2:(i:Int)<b.length:=(by omega);clear H I J L a2 M av D;obtain ⟨H,I,J,L⟩:=Z.o.cells;go_wp2_with fail
   refine bK.o.mono ?_;rintro e ad ⟨V,aE,rfl,bf,W,_⟩;have bc:some S≠(Value.slice G s.length N).ownBlock:=Z.o.not_row Q.o;have bd:some (S+1)≠(Value.slice G s.length N).ownBlock:=af.o.not_row Q.o;have bb:some a≠(Value.slice G s.length N).ownBlock:=fun e=>by
    have:=(Q.o.lt a e.symm).1;omega
   have ag:Zh (zj ad S (zI c) (zI n) (.slice m g p) (.slice (zO a 0) b.length d)):=zh ((W.block S (Array.getElem?_eq_some_iff.1 Z.o).1 bc).trans Z.o);have aS:Zh (zj ad (S+1) (zI 0) (zI 0) zN zN):=zh ((W.block (S+1) (Array.getElem?_eq_some_iff.1 af.o).1 bd).trans af.o);have bC:=zh (aQ.o.kept W (Or.inr bb));have aK:=zh bf;have bs:Zh (w.grownBy ad (some a)):=zh (xE aN.o W (fun j e=>by have:=(Q.o.lt j e).1;omega));have bI:=zh (Mi ad B a b.length d b i y rfl bC.o);clear bf W bc bd bb H I J L aj ak al am an ao ap;obtain ⟨H,I,J,L⟩:=ag.o.cells;go_wp2_with fail
   refine bI.o.mono ?_;rintro e C ⟨rfl,bg,Y⟩;have a0:some S≠some a:=fun e=>by cases e;omega
   have a1:some (S+1)≠some a:=fun e=>by cases e;omega
   have U:Zh (zj C S (zI c) (zI n) (.slice m g p) (.slice (zO a 0) b.length d)):=zh ((Y.block S (Array.getElem?_eq_some_iff.1 ag.o).1 a0).trans ag.o);have aT:Zh (zj C (S+1) (zI 0) (zI 0) zN zN):=zh ((Y.block (S+1) (Array.getElem?_eq_some_iff.1 aS.o).1 a1).trans aS.o);have aL:Zh (C.ownsRow S 60 7 (.slice (zO V 0) (s.length+1) aE) (s.length+1) (ze (Zj s X))):=zh (aK.o.kept Y (Or.inr fun e=>by
    have aX:=(aK.o.lt V rfl).1;have bZ:V=a:=(by simpa [Value.ownBlock] using e);omega))
   have aR:=zh bg;have bt:=zh (TU bs.o Y);have aO:Zh (LInv w (C.setCell (zA S 3) (.slice (zO a 0) (b.length-1) d)) c n m g p l B S a d z (wU b i) (Zj s X) (zO V 0) aE):=by
    have aa:C.grownBy (C.setCell (zA S 3) (.slice (zO a 0) (b.length-1) d)) (some S):=⟨rfl,rfl,rfl,by simp [World.setCell],fun k _ aA=>Below.heap_setCell _ _ _ k (fun e=>aA (by rw [e]))⟩;have aY:(wU b i).length=b.length-1:=XS y;refine zh ⟨?_,?_,?_,?_,?_,?_⟩
    ·have:=Lit.step r.o.lit bq.o;rw [bu.o,bH.o] at this;exact this
    ·rw [aY];exact U.o.set3 _
    ·exact (aa.block (S+1) (Array.getElem?_eq_some_iff.1 aT.o).1 (fun e=>by have:S+1=S:=Option.some.inj e;omega)).trans aT.o
    ·rw [aY];exact aR.o.kept aa (Or.inr fun e=>U.o.not_row aR.o e.symm)
    ·rw [Z7];exact aL.o.kept aa (Or.inr fun e=>U.o.not_row aL.o e.symm)
    exact xE bt.o aa (fun j e=>by cases e;omega)
   have a7:Nu S (C.setCell (zA S 3) (.slice (zO a 0) (b.length-1) d))=b.length-1:=by
    have:=aO.o.box.cells.2.2.2;unfold Nu;rw [this,XS y]
   have bx:=zh a7;obtain ⟨bU,bV,bW,bX⟩:=U.o.cells;have bY:∀ k,C.frozen? (zA S k)=false:=fun k=>frozen_of_row C S k _ _ U.o;clear bg Y a0 a1 H I J L a7;go_wp2;go_roundw
   case rel=>exact ⟨zO V 0,aE,wU b i,Zj s X,by rw [Z7],aO.o⟩
   case measure =>
    rw [bx.o,bz.o];omega
def PB (w:World) (b:Nat):Prop:=∃ cs t fr,w.heap[b]?=some (.cells cs t fr)/\t≠60/\t≠40/\t≠3
structure Stay (w w':World):Prop where
 size:w.heap.size<=w'.heap.size
 keep:∀ b,PB w b->w'.heap[b]?=w.heap[b]?
theorem PB.lt {w:World} {b:Nat} (h:PB w b):b<w.heap.size:=by
 obtain ⟨cs,t,fr,a,_⟩:=h;exact (Array.getElem?_eq_some_iff.1 a).1
theorem Stay.refl (w:World):Stay w w:=⟨Nat.le_refl _,fun _ _=>rfl⟩
theorem PB.stay {w w':World} {b:Nat} (h:PB w b) (d:Stay w w'):PB w' b:=by
 obtain ⟨cs,t,fr,a,c⟩:=h;exact ⟨cs,t,fr,(d.keep b ⟨cs,t,fr,a,c⟩).trans a,c⟩
theorem Stay.trans {a b c:World} (h:Stay a b) (k:Stay b c):Stay a c:=⟨Nat.le_trans h.size k.size,fun y d=>(k.keep y (d.stay h)).trans (h.keep y d)⟩
theorem Stay.below {w w':World} (h:Below w.heap.size w w'):Stay w w':=⟨h.size,fun b a=>h.block b a.lt⟩
theorem Stay.grown {w w':World} {row:Option Nat} (h:w.grownBy w' row) (c:∀ g,row=some g->¬PB w g):Stay w w':=⟨h.size,fun b a=>h.block b a.lt (fun e=>c b e.symm a)⟩
theorem Ti {w:World} {b:Nat} {cs:Array Value} {t:TypeId} {fr:Nat×Nat} (h:w.heap[b]?=some (.cells cs t fr)) (g:t=60\/t=40\/t=3):¬PB w b:=by
 rintro ⟨i,k,j,a,c,d,f⟩;rw [h] at a;cases a
 rcases g with e | e | e
 ·exact c e
 ·exact d e
 exact f e
theorem Ua {w:World} {B z n:Nat} {e:TypeId} {v:Value} {d:List Value} (h:w.ownsRow B e z v n d) (b:e=60\/e=40\/e=3):∀ g,v.ownBlock=some g->¬PB w g:=by
 intro g hg;rcases h.2 with ⟨rfl,_⟩ | ⟨a,f,i,rfl,_,c,_⟩
 ·cases hg
 have:a=g:=by simpa [Value.ownBlock] using hg
 subst this;exact Ti c b
def Wx (w:World) (a:Option Addr) (n cap:Nat) (l:zd):Prop:=RunsIn w a n cap l/\∀ b off,a=zO b off->0<n->PB w b
theorem Wx.stay {w w':World} {a:Option Addr} {n f:Nat} {l:zd} (h:Wx w a n f l) (g:Stay w w'):Wx w' a n f l:=⟨h.1.of_away fun c b d i=>g.keep b (h.2 b d i c),fun b d e c=>(h.2 b d e c).stay g⟩
def SH (w:World) (x:Bk):Prop:=Wx w x.rq.pa x.rq.pn x.rq.pc x.rq.ps/\Wx w x.ba x.bn x.bc x.bs
theorem SH.stay {w w':World} {x:Bk} (h:SH w x) (a:Stay w w'):SH w' x:=⟨h.1.stay a,h.2.stay a⟩
theorem SH.plain {w:World} {x:Bk} (h:SH w x):wT w x:=⟨h.1.1,h.2.1⟩
def TD (w:World) (gb:Nat) (wr:World) (a:Option Addr) (n cap:Nat) (l:zd):Prop:=RunsIn (Ui gb w) a n cap l\/Wx wr a n cap l
theorem TD.stay {w wr d:World} {c:Nat} {a:Option Addr} {n b:Nat} {l:zd} (h:TD w c wr a n b l) (e:Stay wr d):TD w c d a n b l:=h.imp id (fun h=>h.stay e)
theorem TD.plain {w wr:World} {c:Nat} {a:Option Addr} {n b:Nat} {l:zd} (h:TD w c wr a n b l) (hg:w.grownBy wr (some c)):RunsIn wr a n b l:=h.elim (fun h=>(h.later (Yo hg)).on) (fun h=>h.1)
def SG (w:World) (gb:Nat) (wr:World) (x:Bk):Prop:=TD w gb wr x.rq.pa x.rq.pn x.rq.pc x.rq.ps/\TD w gb wr x.ba x.bn x.bc x.bs
theorem SG.stay {w wr c:World} {a:Nat} {x:Bk} (h:SG w a wr x) (b:Stay wr c):SG w a c x:=⟨h.1.stay b,h.2.stay b⟩
theorem SG.plain {w wr:World} {a:Nat} {x:Bk} (h:SG w a wr x) (hg:w.grownBy wr (some a)):wT wr x:=⟨h.1.plain hg,h.2.plain hg⟩
def FT (w:World) (a:Option Addr) (n cap:Nat) (l:QL):Prop:=QsIn w a n cap l/\(∀ b off,a=zO b off->0<n->PB w b)/\∀ i,i<n->Wx w (qu l i).ca (qu l i).cn (qu l i).cc (qu l i).runs
theorem FT.stay {w w':World} {a:Option Addr} {n m:Nat} {l:QL} (h:FT w a n m l) (g:Stay w w'):FT w' a n m l:=by
 refine ⟨⟨h.1.len,h.1.le,h.1.capb,fun f=>?_,fun i d=>((h.2.2 i d).stay g).1,h.1.names,fun f b c e=>(h.1.thaw f b c e).of_eq (g.keep b (h.2.1 b c e f))⟩,fun b c e f=>(h.2.1 b c e f).stay g,fun i d=>(h.2.2 i d).stay g⟩;obtain ⟨b,c,o,j⟩:=h.1.cells f;have k:=g.keep b (h.2.1 b c o f);exact ⟨b,c,o,fun i d=>⟨(World.cell?_of_block (a:=(zA b (c+i*3))) k).trans (j i d).1,(World.cell?_of_block (a:=(zA b (c+i*3+1))) k).trans (j i d).2.1,(World.cell?_of_block (a:=(zA b (c+i*3+2))) k).trans (j i d).2.2⟩⟩
inductive Stl (c:Int) (l:QL) (b1 aw:BL):Nat->BL->List Int->List Int->Prop
 | start:Stl c l b1 aw 0 b1 [] []
 | moved {j:Nat} {b:BL} {mv dr:List Int} {fa:Option Addr} {fm fc:Nat}:Stl c l b1 aw j b mv dr->j<aw.length->(y9 c l b (bk aw j)).2=true->Stl c l b1 aw (j+1) (Zj b ⟨(bk aw j).id,(bk aw j).rq,fa,fm,fc,(y9 c l b (bk aw j)).1⟩) (mv++[(bk aw j).id]) dr
 | dropped {j:Nat} {b:BL} {mv dr:List Int}:Stl c l b1 aw j b mv dr->j<aw.length->(y9 c l b (bk aw j)).2=false->Stl c l b1 aw (j+1) b mv (dr++[(bk aw j).id])
theorem Stl.few {c:Int} {l:QL} {b1 a b:BL} {j:Nat} {mv dr:List Int} (h:Stl c l b1 a j b mv dr):b.length<=b1.length+j/\mv.length<=j/\dr.length<=j/\j<=a.length:=by
 induction h with
 | start=>simp
 | moved _ hj _ ih =>
  rw [Z7];simp only [List.length_append,List.length_singleton];omega
 | dropped _ hj _ ih =>
  simp only [List.length_append,List.length_singleton];omega
theorem Gg:(Tryz.prog.info? 3).map (fun i=>(i.zero,i.size,i.bytes))=some (some (zI 0),1,8):=by kernel_rfl
theorem ZC (a:World) (B:Nat) (v:Value) (l:List Int) (x:Int) (p:zG a B v l) (L:Nat) (f:a.heap[L]?=some (.cells #[zI x] 3 (0,0))) (z:l.length<=100) (d:B<=a.heap.size) :
 ∃ g k b,(Builtin.append_ #[47,47] 47 #[v,.slice (zO L 0) 1 1]).run Tryz.prog a=.ok (.slice (zO g 0) (l.length+1) k) b/\zG b B (.slice (zO g 0) (l.length+1) k) (l++[x])/\a.grownBy b v.ownBlock/\(v.ownBlock=some g\/a.heap.size<=g):=by
 obtain ⟨r,m,e⟩:=Option.map_eq_some_iff.1 Gg;simp only [Prod.mk.injEq] at e;obtain ⟨t,w,y⟩:=e;obtain ⟨c,s,w',q,o,i,h,_⟩:=run_append_lies a 47 47 B 3 r _ 1 8 Tryz.underlying47 m t w y (by rfl) (by omega) v l.length (l.map (Value.int .i64)) p (zA L 0) 1 1 [zI x] rfl (fun j u n=>by
  rw [Addr.add_lit,Nat.zero_add,cell_of_row a L j _ _ _ f];simpa using n) (by simp [Value.oneCell']) (by omega) (by unfold maxLen;omega) (by omega) d a.heap.size rfl
 refine ⟨c,s,w',q,?_,i,h.imp id (fun e=>Nat.le_of_eq e.symm)⟩;unfold zG;rw [List.length_append,List.map_append];exact o
end Go.Proofs.YtckpdfkobdgjeaaGreatDoor
