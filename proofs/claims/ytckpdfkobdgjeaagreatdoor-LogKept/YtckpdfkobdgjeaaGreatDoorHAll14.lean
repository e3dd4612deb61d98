/- Several texts in one: CutM, CutN. -/
import Derived.Test.YtckpdfkobdgjeaaGreatDoorHAll13
namespace Go.Proofs.YtckpdfkobdgjeaaGreatDoor
set_option maxRecDepth 100000
set_option maxHeartbeats 4000000
open Go.RowKit
theorem Mi (w:World) (B g m k:Nat) (b:BL) (i:Nat) (s:i<m) (d:m=b.length) (v:w.ownsRow B 60 7 (.slice (zO g 0) m k) m (ze b)) :
 zC 91 #[.slice (zO g 0) m k,zI i,zI ((i:Int)+1)] w fun e w'=>e=.returned (.slice (zO g 0) (m-1) k)/\w'.ownsRow B 60 7 (.slice (zO g 0) (m-1) k) (m-1) (ze (wU b i))/\w.grownBy w' (some g):=by
 rcases v.2 with ⟨e,_⟩ | ⟨z,cap,f,e,q,hg,t,c,r,x⟩
 ·cases e
 ·simp only [Value.slice.injEq,Option.some.injEq,Addr.mk.injEq,and_true] at e;obtain ⟨rfl,_,rfl⟩:=e;refine (SB w g m k f b i s d t (by unfold maxLen at c;omega) hg r x).mono ?_;rintro e w' ⟨rfl,⟨h,j,l,n⟩,o,A,p⟩;have a:=p 0 (Nat.zero_le _);refine ⟨rfl,⟨by rw [zE,XS (by omega),d],.inr ⟨g,k,h,rfl,q,j,by omega,c,l,n⟩⟩,a.os,a.tape,a.output,by omega,fun y _ u=>o y (fun e=>u (by rw [e]))⟩
theorem zj.not_row {a:World} {S:Nat} {p q r s:Value} (h:zj a S p q r s) {B z m:Nat} {v:Value} {f:List Value} (d:a.ownsRow B 60 z v m f):some S≠v.ownBlock:=by
 rcases d.2 with ⟨rfl,_⟩ | ⟨g,cap,i,rfl,_,hg,_⟩
 ·simp [Value.ownBlock]
 intro e;have b:S=g:=by simpa [Value.ownBlock] using e
 subst b;have c:a.heap[S]?=_:=h;rw [c] at hg;cases hg
theorem TU {w a D:World} {row:Option Nat} (h:w.grownBy a row) (hg:a.grownBy D row):w.grownBy D row :=
 ⟨hg.os.trans h.os,hg.tape.trans h.tape,hg.output.trans h.output,Nat.le_trans h.size hg.size,fun k b c=>(hg.block k (Nat.lt_of_lt_of_le b h.size) c).trans (h.block k b c)⟩
theorem YF {w a D:World} {row:Option Nat} (h:w.grownBy a row) (hg:Below a.heap.size a D):w.grownBy D row :=
 ⟨hg.os.trans h.os,hg.tape.trans h.tape,hg.output.trans h.output,Nat.le_trans h.size hg.size,fun k b c=>(hg.block k (Nat.lt_of_lt_of_le b h.size)).trans (h.block k b c)⟩
theorem zj.set3 {w:World} {S:Nat} {p q r s:Value} (h:zj w S p q r s) (v:Value):zj (w.setCell (zA S 3) v) S p q r v:=by
 have:=heap_setCell_same w S 3 _ _ v h;exact this
structure LInv (w wr:World) (c n:Int) (ta:Option Addr) (tn tc:Nat) (l:QL) (B S gb k0:Nat) (b0 b aw:BL) (aa:Option Addr) (ka:Nat):Prop where
 lit:Lit c l b0 b aw
 box:zj wr S (zI c) (zI n) (.slice ta tn tc) (.slice (zO gb 0) b.length k0)
 res:zj wr (S+1) (zI 0) (zI 0) zN zN
 row:wr.ownsRow B 60 7 (.slice (zO gb 0) b.length k0) b.length (ze b)
 away:wr.ownsRow S 60 7 (.slice aa aw.length ka) aw.length (ze aw)
 grown:w.grownBy wr (some gb)
def FR (w:World) (c n:Int) (ta:Option Addr) (tn tc:Nat) (l:QL) (B S gb k0:Nat) (b0:BL) (p:Value) (wr:World):Prop:=∃ aa ka b aw,p=.slice aa (List.length aw) ka/\LInv w wr c n ta tn tc l B S gb k0 b0 b aw aa ka
def Nu (S:Nat) (wr:World):Nat:=match wr.cell? (zA S 3) with
 | some (.slice _ m _)=>m
 | _=>0
def JV (w w':World) (e:Ending) (c n:Int) (ta:Option Addr) (tn tc:Nat) (l:QL) (B gb k0:Nat) (b0:BL):Prop:=∃ b aw aa ka,e=.returned (.tuple #[.agg (zS c n ta tn tc (zO gb 0) (List.length b) k0),.slice aa (List.length aw) ka])/\Lit c l b0 b aw/\(∀ u,c<=u->u<48->∀ q,q<tn->yw l b u q=false)/\w'.ownsRow B 60 7 (.slice (zO gb 0) b.length k0) b.length (ze b)/\w'.ownsRow w.heap.size 60 7 (.slice aa aw.length ka) aw.length (ze aw)/\w.grownBy w' (some gb)
theorem Nw (w:World) (c n:Int) (m:Option Addr) (g p:Nat) (l:QL) (B a d ab:Nat) (y:BL) (bQ:ab=y.length) (a3:Clean l y) (aW:0<=c) (aX:c<=48) (aC:QsIn (Ui a w) m g p l) (a6:∀ x∈y,wT (Ui a w) x) (aD:w.ownsRow B 60 7 (.slice (zO a 0) ab d) ab (ze y)) :
 zC 95 #[.agg (zS c n m g p (zO a 0) ab d)] w fun e w'=>JV w w' e c n m g p l B a d y:=by
 subst bQ;obtain ⟨S,aZ⟩:=qA (w.heap.size);obtain ⟨ai,au⟩:=qB ((w.alloc (.cells (zS c n m g p (some ⟨a,0,none⟩) y.length d) 40)).alloc (.cells zZ 40));obtain ⟨aH,aI,E,bm⟩:=ZK w _ _ _ _ au;rw [aZ] at aH aI bm;have b1:a<S:=by have:=(aD.lt a rfl).2;omega
 have bE:Zh (LInv w ai c n m g p l B S a d y y [] none 0):=zh ⟨Lit.start,aH,aI,zy aD E,World.ownsRow_nil _ _ _ _,⟨E.os,E.tape,E.output,E.size,fun k bO _=>E.block k bO⟩⟩;have bG:=zh au;have bn:=aC.len;have bv:=zh a6;have bD:=zh aC;have aM:=zh a3;have aU:=zh bn;clear aH aI E bm au aD a6 aC a3 bn;go_enter Tryz.func95,Tryz.ntmps95;go_wp2;go_loopw [4] (FR w c n m g p l B S a d y) (fun _ wr=>Nu S wr)
 case atStart=>exact ⟨none,0,y,[],rfl,by rw [<-bG.o];exact bE.o⟩
 case round =>
  obtain ⟨F,M,b,s,rfl,D⟩:=hrel;have r:=zh D;obtain ⟨ax,bi,bj,a9⟩:=D.lit.clean aM.o aW;obtain ⟨aV,c1,c2,c3⟩:=D.box.cells;have ar:QsIn wr m g p l:=(bD.o.later (Yo D.grown)).on;have aq:BksIn wr (zO a 0) b.length d b:=S3 rfl D.row (fun x bS=>((bv.o x (bi x bS)).later (Yo D.grown)).on);have bJ:=zh (Q8 wr c n m g p l _ b.length d b ⟨ar,aq⟩ (Xk ax) aW aX);have ae:=zh ax;have bA:=zh a9;have bF:=zh (show zY wr m g p l _ _ _ b from ⟨ar,aq⟩);have bT:=zh bj;have a8:Nu S wr=b.length:=by unfold Nu;rw [c3]
  have bz:=zh a8;clear D ax bi bj a9 ar aq a8;go_wp2_with fail
  refine bJ.o.mono ?_;rintro e O ⟨t,q,f,rfl,aw,z⟩;cases f with
  | false =>
   have be:∀ Y,c<=Y->Y<48->∀ k,k<g->yw l b Y k=false:=by
    rcases aw with ⟨_,_,_,h⟩ | ⟨e,_⟩
    ·exact h
    cases e
   have bB:=zh be;obtain ⟨G,H,I,J⟩:=(r.o.box.later z).cells;have Q:=zh (r.o.res.later z);have aP:=zh (zy r.o.row z);have aJ:=zh (zy r.o.away z);have br:=zh (YF r.o.grown z);obtain ⟨b5,b6,b7,b8⟩:=Q.o.cells;have b9:∀ k,O.frozen? (zA (S+1) k)=false:=fun k=>frozen_of_row O (S+1) k _ _ Q.o;clear aw be z aV c1 c2 c3;go_wp2;have bl:=zk O (S+1) 40 _ _ _ _ (zI c) (zI n) (.slice m g p) (.slice (zO a 0) b.length d) Q.o;refine bodyPost_ret (v:=.tuple #[.agg (zS c n m g p (zO a 0) b.length d),.slice F s.length M]) (zt Tryz.results95 _ _ (S+1) 40 (zS c n m g p (zO a 0) b.length d) (0,0) _ rfl bl.1 Tryz.underlying40 rfl (by kernel_rfl)) rfl ?_;have ay:O.grownBy ((((O.setCell (zA (S+1) 0) (zI c)).setCell (zA (S+1) 1) (zI n)).setCell (zA (S+1) 2) (.slice m g p)).setCell (zA (S+1) 3) (.slice (zO a 0) b.length d)) (some (S+1)):=⟨rfl,rfl,rfl,by simp [World.setCell],fun k _ aA=>bl.2 k (fun e=>aA (by rw [e]))⟩;refine ⟨b,s,F,M,rfl,r.o.lit,bB.o,aP.o.kept ay (Or.inr fun e=>Q.o.not_row aP.o e.symm),?_,xE br.o ay (fun j e=>by cases e;omega)⟩;rw [aZ];exact aJ.o.kept ay (Or.inr fun e=>Q.o.not_row aJ.o e.symm)
  | true =>
   rcases aw with ⟨e,_⟩ | ⟨_,bo,aF,N,bP,rfl,aB,a4,a5⟩
   ·cases e
   have ba:N<l.length:=(by have:=aU.o;omega);have bh:=XX ae.o ba (by omega) aF aB;have u:=WT l b t N b.length bh;have bq:Zh (XO c l b l.length t N true):=zh (Or.inr ⟨rfl,bo,aF,N,ba,rfl,aB,a4,fun Y bL bM i u=>a5 Y bL bM i (by have:=aU.o;omega)⟩);obtain ⟨i,az⟩:=qA (wC l b t N b.length);have ah:=IE O c n m g p l _ b.length d b (bF.o.later z) ae.o bh t N bP;rw [az] at ah u;have bw:=zh ah;have bu:=zh az;have b0:b.length<=12:=ae.o.few;have bN:s.length<=12:=(by have:=aM.o.few;have:=bA.o;omega);have bp:=zh z;obtain ⟨G,H,I,J⟩:=(r.o.box.later z).cells;clear aB a4 a5 bo aF z ah az aV c1 c2 c3;go_wp2_with fail
   refine bw.o.mono ?_;rintro e aG ⟨rfl,a2⟩;have L:zL wr aG:=za bp.o a2;have aQ:=zh (zy r.o.row L);have P:=zh (zy r.o.away L);have aN:=zh (YF r.o.grown L);have Z:=zh (r.o.box.later L);have af:=zh (r.o.res.later L);obtain ⟨b3,b4,C⟩:=VH rfl aQ.o;obtain ⟨X,av⟩:=qA (bk b i);have aj:=C i u 0 _ rfl;have ak:=C i u 1 _ rfl;have al:=C i u 2 _ rfl;have am:=C i u 3 _ rfl;have an:=C i u 4 _ rfl;have ao:=C i u 5 _ rfl;have ap:=C i u 6 _ rfl;rw [av] at aj ak al am an ao ap;simp only [Nat.zero_add,Nat.add_zero] at aj ak al am an ao ap;have bH:=zh av;have bR:S<=aG.heap.size:=(by have:=aN.o.size;omega);have bK:=zh (LZ aG S s.length M F s X rfl bN P.o bR);have b2:(i:Int)<b.length:=(by omega);clear G H I J a2 L av C;obtain ⟨G,H,I,J⟩:=Z.o.cells;go_wp2_with fail
   refine bK.o.mono ?_;rintro e ad ⟨U,aE,rfl,bf,V,_⟩;have bc:some S≠(Value.slice F s.length M).ownBlock:=Z.o.not_row P.o;have bd:some (S+1)≠(Value.slice F s.length M).ownBlock:=af.o.not_row P.o;have bb:some a≠(Value.slice F s.length M).ownBlock:=fun e=>by
    have:=(P.o.lt a e.symm).1;omega
   have ag:Zh (zj ad S (zI c) (zI n) (.slice m g p) (.slice (zO a 0) b.length d)):=zh ((V.block S (Array.getElem?_eq_some_iff.1 Z.o).1 bc).trans Z.o);have aS:Zh (zj ad (S+1) (zI 0) (zI 0) zN zN):=zh ((V.block (S+1) (Array.getElem?_eq_some_iff.1 af.o).1 bd).trans af.o);have bC:=zh (aQ.o.kept V (Or.inr bb));have aK:=zh bf;have bs:Zh (w.grownBy ad (some a)):=zh (xE aN.o V (fun j e=>by have:=(P.o.lt j e).1;omega));have bI:=zh (Mi ad B a b.length d b i u rfl bC.o);clear bf V bc bd bb G H I J aj ak al am an ao ap;obtain ⟨G,H,I,J⟩:=ag.o.cells;go_wp2_with fail
   refine bI.o.mono ?_;rintro e A ⟨rfl,bg,W⟩;have a0:some S≠some a:=fun e=>by cases e;omega
   have a1:some (S+1)≠some a:=fun e=>by cases e;omega
   have R:Zh (zj A S (zI c) (zI n) (.slice m g p) (.slice (zO a 0) b.length d)):=zh ((W.block S (Array.getElem?_eq_some_iff.1 ag.o).1 a0).trans ag.o);have aT:Zh (zj A (S+1) (zI 0) (zI 0) zN zN):=zh ((W.block (S+1) (Array.getElem?_eq_some_iff.1 aS.o).1 a1).trans aS.o);have aL:Zh (A.ownsRow S 60 7 (.slice (zO U 0) (s.length+1) aE) (s.length+1) (ze (Zj s X))):=zh (aK.o.kept W (Or.inr fun e=>by
    have aX:=(aK.o.lt U rfl).1;have bZ:U=a:=(by simpa [Value.ownBlock] using e);omega))
   have aR:=zh bg;have bt:=zh (TU bs.o W);have aO:Zh (LInv w (A.setCell (zA S 3) (.slice (zO a 0) (b.length-1) d)) c n m g p l B S a d y (wU b i) (Zj s X) (zO U 0) aE):=by
    have aa:A.grownBy (A.setCell (zA S 3) (.slice (zO a 0) (b.length-1) d)) (some S):=⟨rfl,rfl,rfl,by simp [World.setCell],fun k _ aA=>Below.heap_setCell _ _ _ k (fun e=>aA (by rw [e]))⟩;have aY:(wU b i).length=b.length-1:=XS u;refine zh ⟨?_,?_,?_,?_,?_,?_⟩
    ·have:=Lit.step r.o.lit bq.o;rw [bu.o,bH.o] at this;exact this
    ·rw [aY];exact R.o.set3 _
    ·exact (aa.block (S+1) (Array.getElem?_eq_some_iff.1 aT.o).1 (fun e=>by have:S+1=S:=Option.some.inj e;omega)).trans aT.o
    ·rw [aY];exact aR.o.kept aa (Or.inr fun e=>R.o.not_row aR.o e.symm)
    ·rw [Z7];exact aL.o.kept aa (Or.inr fun e=>R.o.not_row aL.o e.symm)
    exact xE bt.o aa (fun j e=>by cases e;omega)
   have a7:Nu S (A.setCell (zA S 3) (.slice (zO a 0) (b.length-1) d))=b.length-1:=by
    have:=aO.o.box.cells.2.2.2;unfold Nu;rw [this,XS u]
   have bx:=zh a7;obtain ⟨bU,bV,bW,bX⟩:=R.o.cells;have bY:∀ k,A.frozen? (zA S k)=false:=fun k=>frozen_of_row A S k _ _ R.o;clear bg W a0 a1 G H I J a7;go_wp2;go_roundw
   case rel=>exact ⟨zO U 0,aE,wU b i,Zj s X,by rw [Z7],aO.o⟩
   case measure =>
    rw [bx.o,bz.o];omega
def PB (w:World) (b:Nat):Prop:=∃ cs t fr,w.heap[b]?=some (.cells cs t fr)/\t≠60/\t≠40/\t≠3
structure Stay (w w':World):Prop where
 size:w.heap.size<=w'.heap.size
 keep:∀ b,PB w b->w'.heap[b]?=w.heap[b]?
theorem PB.lt {w:World} {b:Nat} (h:PB w b):b<w.heap.size:=by
 obtain ⟨cs,t,fr,a,_⟩:=h;exact (Array.getElem?_eq_some_iff.1 a).1
theorem Stay.refl (w:World):Stay w w:=⟨Nat.le_refl _,fun _ _=>rfl⟩
theorem PB.stay {w w':World} {b:Nat} (h:PB w b) (d:Stay w w'):PB w' b:=by
 obtain ⟨cs,t,fr,a,c⟩:=h;exact ⟨cs,t,fr,(d.keep b ⟨cs,t,fr,a,c⟩).trans a,c⟩
theorem Stay.trans {a b c:World} (h:Stay a b) (k:Stay b c):Stay a c:=⟨Nat.le_trans h.size k.size,fun y d=>(k.keep y (d.stay h)).trans (h.keep y d)⟩
theorem Stay.below {w w':World} (h:Below w.heap.size w w'):Stay w w':=⟨h.size,fun b a=>h.block b a.lt⟩
theorem Stay.grown {w w':World} {row:Option Nat} (h:w.grownBy w' row) (c:∀ g,row=some g->¬PB w g):Stay w w':=⟨h.size,fun b a=>h.block b a.lt (fun e=>c b e.symm a)⟩
theorem Ti {w:World} {b:Nat} {cs:Array Value} {t:TypeId} {fr:Nat×Nat} (h:w.heap[b]?=some (.cells cs t fr)) (g:t=60\/t=40\/t=3):¬PB w b:=by
 rintro ⟨i,t',j,a,c,d,f⟩;rw [h] at a;cases a
 rcases g with e | e | e
 ·exact c e
 ·exact d e
 exact f e
theorem Ua {w:World} {B z n:Nat} {e:TypeId} {v:Value} {d:List Value} (h:w.ownsRow B e z v n d) (b:e=60\/e=40\/e=3):∀ g,v.ownBlock=some g->¬PB w g:=by
 intro g hg;rcases h.2 with ⟨rfl,_⟩ | ⟨a,cap,f,rfl,_,c,_⟩
 ·cases hg
 have:a=g:=by simpa [Value.ownBlock] using hg
 subst this;exact Ti c b
def Wx (w:World) (a:Option Addr) (n cap:Nat) (l:zd):Prop:=RunsIn w a n cap l/\∀ b off,a=zO b off->0<n->PB w b
theorem Wx.stay {w w':World} {a:Option Addr} {n cap:Nat} {l:zd} (h:Wx w a n cap l) (m:Stay w w'):Wx w' a n cap l:=by
 refine ⟨⟨h.1.len,h.1.le,h.1.bound,h.1.capb,fun d=>?_⟩,fun b c e d=>(h.2 b c e d).stay m⟩;obtain ⟨b,c,f,g⟩:=h.1.cells d;have k:=m.keep b (h.2 b c f d);exact ⟨b,c,f,fun i j=>⟨(World.cell?_of_block (a:=(zA b (c+i*2))) k).trans (g i j).1,(World.cell?_of_block (a:=(zA b (c+i*2+1))) k).trans (g i j).2⟩⟩
def SH (w:World) (x:Bk):Prop:=Wx w x.rq.pa x.rq.pn x.rq.pc x.rq.ps/\Wx w x.ba x.bn x.bc x.bs
theorem SH.stay {w w':World} {x:Bk} (h:SH w x) (a:Stay w w'):SH w' x:=⟨h.1.stay a,h.2.stay a⟩
theorem SH.plain {w:World} {x:Bk} (h:SH w x):wT w x:=⟨h.1.1,h.2.1⟩
def TD (w:World) (gb:Nat) (wr:World) (a:Option Addr) (n cap:Nat) (l:zd):Prop:=RunsIn (Ui gb w) a n cap l\/Wx wr a n cap l
theorem TD.stay {w wr c:World} {b:Nat} {a:Option Addr} {n cap:Nat} {l:zd} (h:TD w b wr a n cap l) (d:Stay wr c):TD w b c a n cap l:=h.imp id (fun h=>h.stay d)
theorem TD.plain {w wr:World} {b:Nat} {a:Option Addr} {n cap:Nat} {l:zd} (h:TD w b wr a n cap l) (hg:w.grownBy wr (some b)):RunsIn wr a n cap l:=h.elim (fun h=>(h.later (Yo hg)).on) (fun h=>h.1)
def SG (w:World) (gb:Nat) (wr:World) (x:Bk):Prop:=TD w gb wr x.rq.pa x.rq.pn x.rq.pc x.rq.ps/\TD w gb wr x.ba x.bn x.bc x.bs
theorem SG.stay {w wr c:World} {a:Nat} {x:Bk} (h:SG w a wr x) (b:Stay wr c):SG w a c x:=⟨h.1.stay b,h.2.stay b⟩
theorem SG.plain {w wr:World} {a:Nat} {x:Bk} (h:SG w a wr x) (hg:w.grownBy wr (some a)):wT wr x:=⟨h.1.plain hg,h.2.plain hg⟩
def FT (w:World) (a:Option Addr) (n cap:Nat) (l:QL):Prop:=QsIn w a n cap l/\(∀ b off,a=zO b off->0<n->PB w b)/\∀ i,i<n->Wx w (qu l i).ca (qu l i).cn (qu l i).cc (qu l i).runs
theorem FT.stay {w w':World} {a:Option Addr} {n cap:Nat} {l:QL} (h:FT w a n cap l) (g:Stay w w'):FT w' a n cap l:=by
 refine ⟨⟨h.1.len,h.1.le,h.1.capb,fun f=>?_,fun i c=>((h.2.2 i c).stay g).1,h.1.names⟩,fun b d e f=>(h.2.1 b d e f).stay g,fun i c=>(h.2.2 i c).stay g⟩;obtain ⟨b,d,m,j⟩:=h.1.cells f;have k:=g.keep b (h.2.1 b d m f);exact ⟨b,d,m,fun i c=>⟨(World.cell?_of_block (a:=(zA b (d+i*3))) k).trans (j i c).1,(World.cell?_of_block (a:=(zA b (d+i*3+1))) k).trans (j i c).2.1,(World.cell?_of_block (a:=(zA b (d+i*3+2))) k).trans (j i c).2.2⟩⟩
inductive Stl (c:Int) (l:QL) (b1 aw:BL):Nat->BL->List Int->List Int->Prop
 | start:Stl c l b1 aw 0 b1 [] []
 | moved {j:Nat} {b:BL} {mv dr:List Int} {fa:Option Addr} {fm fc:Nat}:Stl c l b1 aw j b mv dr->j<aw.length->(y9 c l b (bk aw j)).2=true->Stl c l b1 aw (j+1) (Zj b ⟨(bk aw j).id,(bk aw j).rq,fa,fm,fc,(y9 c l b (bk aw j)).1⟩) (mv++[(bk aw j).id]) dr
 | dropped {j:Nat} {b:BL} {mv dr:List Int}:Stl c l b1 aw j b mv dr->j<aw.length->(y9 c l b (bk aw j)).2=false->Stl c l b1 aw (j+1) b mv (dr++[(bk aw j).id])
theorem Stl.few {c:Int} {l:QL} {b1 a b:BL} {j:Nat} {mv dr:List Int} (h:Stl c l b1 a j b mv dr):b.length<=b1.length+j/\mv.length<=j/\dr.length<=j/\j<=a.length:=by
 induction h with
 | start=>simp
 | moved _ hj _ ih =>
  rw [Z7];simp only [List.length_append,List.length_singleton];omega
 | dropped _ hj _ ih =>
  simp only [List.length_append,List.length_singleton];omega
theorem Gg:(Tryz.prog.info? 3).map (fun i=>(i.zero,i.size,i.bytes))=some (some (zI 0),1,8):=by kernel_rfl
theorem ZC (a:World) (B:Nat) (v:Value) (l:List Int) (x:Int) (p:zG a B v l) (L:Nat) (f:a.heap[L]?=some (.cells #[zI x] 3 (0,0))) (y:l.length<=100) (d:B<=a.heap.size) :
 ∃ g k b,(Builtin.append_ #[47,47] 47 #[v,.slice (zO L 0) 1 1]).run Tryz.prog a=.ok (.slice (zO g 0) (l.length+1) k) b/\zG b B (.slice (zO g 0) (l.length+1) k) (l++[x])/\a.grownBy b v.ownBlock/\(v.ownBlock=some g\/a.heap.size<=g):=by
 obtain ⟨r,m,e⟩:=Option.map_eq_some_iff.1 Gg;simp only [Prod.mk.injEq] at e;obtain ⟨t,u,w⟩:=e;obtain ⟨c,s,w',q,o,i,h,_⟩:=run_append_lies a 47 47 B 3 r _ 1 8 Tryz.underlying47 m t u w (by rfl) (by omega) v l.length (l.map (Value.int .i64)) p (zA L 0) 1 1 [zI x] rfl (fun j z n=>by
  rw [Addr.add_lit,Nat.zero_add,cell_of_row a L j _ _ _ f];simpa using n) (by simp [Value.oneCell']) (by omega) (by unfold maxLen;omega) (by omega) d a.heap.size rfl
 refine ⟨c,s,w',q,?_,i,h.imp id (fun e=>Nat.le_of_eq e.symm)⟩;unfold zG;rw [List.length_append,List.map_append];exact o
end Go.Proofs.YtckpdfkobdgjeaaGreatDoor
