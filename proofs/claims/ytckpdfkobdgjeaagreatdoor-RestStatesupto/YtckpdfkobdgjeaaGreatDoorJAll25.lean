/- Several texts in one: SeekE, SeekF. -/
import Derived.Test.YtckpdfkobdgjeaaGreatDoorJAll24
import Derived.Test.YtckpdfkobdgjeaaGreatDoorJRefK
namespace Go.Proofs.YtckpdfkobdgjeaaGreatDoor
set_option maxRecDepth 100000
set_option maxHeartbeats 4000000
open Go.RowKit
set_option linter.unusedSectionVars false
variable [Inhabited Mk]
def PN (w:World) (B:Nat) (r:Rq) (pb po:Nat):Prop:=w.heap[B]?=some (.cells #[zI r.queue,zI r.fr,zI r.un,zI r.kind,.slice (zO pb po) r.pn r.pc] 24 (0,0))
theorem PN.cells {w:World} {B:Nat} {r:Rq} {a b:Nat} (h:PN w B r a b) :
 w.cell? (zA B 0)=some (zI r.queue)/\w.cell? (zA B 1)=some (zI r.fr)/\w.cell? (zA B 2)=some (zI r.un)/\w.cell? (zA B 3)=some (zI r.kind)/\w.cell? (zA B 4)=some (.slice (zO a b) r.pn r.pc):=by
 refine ⟨?_,?_,?_,?_,?_⟩ <;> (rw [cell_of_row w B _ _ _ _ h];rfl)
def Qx (g:zd) (x M:Int) (i:Nat) (s:Nat):Int:=if x<=s/\s<i then zn g s-M else zn g s
theorem Kt (g:zd) (x M:Int) (i:Nat) (h:x<=i):JK (Qx g x M i) i (zn g i-M)=Qx g x M (i+1):=by
 funext s
 unfold JK Qx;by_cases e:s=i
 ·subst e;rw [if_pos rfl,if_pos ⟨h,by omega⟩]
 rw [if_neg e];by_cases a:x<=s/\s<i
 ·rw [if_pos a,if_pos ⟨a.1,by omega⟩]
 rw [if_neg a,if_neg (fun q=>a ⟨q.1,by omega⟩)]
theorem MO (g:zd) (x M:Int) (i:Nat) (h:i<=x):Qx g x M i=zn g:=by
 funext s
 unfold Qx;rw [if_neg (fun q=>by omega)]
theorem Gb (g:zd) (x M:Int) (i:Nat):Qx g x M i i=zn g i:=by
 unfold Qx;rw [if_neg (fun q=>by omega)]
structure Keeps (w wi:World) (G B S P:Nat) (r:Rq) (pb po:Nat) (v:Value) (bs:zd) (L M:Int):Prop where
 box:PN wi B r pb po
 own:zP wi S v bs
 bel:Below w.heap.size w wi
 size:S<=wi.heap.size
 p0:wi.cell? (zA P 0)=some (zI L)
 p1:wi.cell? (zA P 1)=some (zI M)
theorem Keeps.store {w c:World} {b B S P:Nat} {r:Rq} {e f:Nat} {v:Value} {bs:zd} {L M:Int} (h:Keeps w c b B S P r e f v bs L M) (j:w.heap.size<=b/\b<S) (g:B≠b) (d:P≠b) (i:Nat) (y:Value) :
 Keeps w (c.setCell (zA b i) y) b B S P r e f v bs L M:=by
 refine ⟨?_,h.own.of_block (fun k l=>Below.heap_setCell _ _ _ k (by have:=(h.own.lt k l).1;simp only;omega)),h.bel.setCell j.1 _,?_,?_,?_⟩
 ·unfold PN;rw [Below.heap_setCell _ _ _ B (by simpa using g)];exact h.box
 ·simp only [World.setCell,Array.size_modify];exact h.size
 ·exact (World.cell?_of_block (w:=c) (a:=(zA P 0)) (Below.heap_setCell _ _ _ P (by simpa using d))).trans h.p0
 ·exact (World.cell?_of_block (w:=c) (a:=(zA P 1)) (Below.heap_setCell _ _ _ P (by simpa using d))).trans h.p1
theorem Keeps.drew {w d:World} {a B S P:Nat} {r:Rq} {b c:Nat} {v:Value} {bs:zd} {L M:Int} (h:Keeps w d a B S P r b c v bs L M):Keeps w d.drew a B S P r b c v bs L M :=
 ⟨h.box,h.own,_root_.Go.below_drewN h.bel 1,h.size,h.p0,h.p1⟩
theorem Kx {r:Rq} (b:z8 false r=0) {g:zd} (hg:zW g) {k:Nat} (j:k<r.ps.length) {x L M z:Int} (e:yj r g r.fr k=(x,true,z)) (f:zp r.ps k=L) (h:rN r.ps k=M) :
 x+L<=48/\zW (yV g x (x+L) (-M)).1/\(∀ i:Nat,i<48->-1048576<=zn g i/\zn g i<=1048576)/\∀ i:Nat,(i:Int)=x+L->ya (Qx g x M i)=ya (zn (yV g x (x+L) (-M)).1):=by
 have y:=xA b;have v:=yh b j;have o:(yj r g r.fr k).2.1=true:=by rw [e]
 obtain ⟨_,F,t,C,l,D,c,_⟩:=YX b j o;rw [e] at l;simp only at l;unfold OR at c;rw [f,h] at c;rw [f,h] at v;have d:x+L<=48:=by omega
 obtain ⟨b1,m,n⟩:=Uq hg (t:=x) (L:=L) (M:=M) (by omega) (by omega) d (by omega) (fun u A B=>c.2 u (by omega) (by omega));refine ⟨d,m,fun i p=>ZA.1 (Tv hg (i:Int) (by omega)),fun i p=>Wv fun s w=>?_⟩;rw [n s w];unfold Qx;by_cases a:x<=s/\(s:Int)<x+L
 ·rw [if_pos a,if_pos ⟨a.1,by omega⟩]
 ·rw [if_neg a,if_neg (fun q=>a ⟨q.1,by omega⟩)]
theorem KE (w:World) (f:zd) (a3:zW f) (r:Rq) (h:zH w r) (t:z8 false r=0) (E:r.kind=1) :
 zC 70 #[.agg (ya (zn f)),.agg #[zI r.queue,zI r.fr,zI r.un,zI r.kind,.slice r.pa r.pn r.pc]] w fun e w'=>ZB w w' e (yB (yC r f r.ps.length)):=by
 obtain ⟨u,R⟩:=qA (yB (yC r f r.ps.length));rw [R];have bY:=h.capb;have b6:=h.le;have bq:=zh h.len;have bb:0<r.pn:=by have:=of_decide_eq_true (zv.1 t).2.1;have:=h.len;omega
 have b8:r.pn<=3:=by have:=of_decide_eq_true (zv.1 t).2.1;have:=h.len;omega
 obtain ⟨d,j,a9,ba⟩:=h.cells bb;have aj:=zh ba;have br:=zh fun k (F:k<r.pn)=>yh t (k:=k) (by have:=h.len;omega);have aP:=zh (xA t);have bx:=zh fun (X:World) (g:zd) (hg:zW g) (fm:Int) (k:Nat) (F:k<r.pn) (bA:0<=fm) (bB:fm<=200)=>VA X t hg (k:=k) (by have:=h.len;omega) bA bB;obtain ⟨bQ,bH,bM,bN,bO⟩:=info_parts Tryz.infoBite;have ad:=zh (((Below.refl w.heap.size w).alloc (Nat.le_refl _) (.cells (ya (zn f)) 126)).alloc (by simp) (.cells #[zI r.queue,zI r.fr,zI r.un,zI r.kind,.slice (zO d j) r.pn r.pc] 24));have ap:=zh ((ZU.new w (zn f)).alloc (.cells #[zI r.queue,zI r.fr,zI r.un,zI r.kind,.slice (zO d j) r.pn r.pc] 24));have Q:=zh (wn (w.alloc (.cells (ya (zn f)) 126)) r);rw [a9] at Q;rw [a9];have b5:(r.kind==4)=false:=by simp [E]
 have b1:(r.kind==1)=true:=by simp [E]
 have b2:(r.kind==2)=false:=by simp [E]
 have b3:(r.kind != 2)=true:=by simp [E]
 have b4:(r.kind==3)=false:=by simp [E]
 rw [<-bq.o] at R;have aD:=zh R;have bp:=zh (Q6 (r:=r) (f:=f));have bn:=zh a3;have bz:=zh fun (g:zd) (hg:zW g) (k:Nat) (F:k<r.pn) (x L M z:Int)=>Kx t hg (k:=k) (by have:=h.len;omega) (x:=x) (L:=L) (M:=M) (z:=z);clear ba h a3 t R E;go_enter Tryz.func70,Tryz.ntmps70;go_wp2_with fail
 have ao:Zh (PN ((w.alloc (.cells (ya (zn f)) 126)).alloc (.cells #[zI r.queue,zI r.fr,zI r.un,zI r.kind,.slice (zO d j) r.pn r.pc] 24)) (w.heap.size+1) r d j):=by
  show PN ((w.alloc (.cells (ya (zn f)) 126)).alloc (.cells #[zI r.queue,zI r.fr,zI r.un,zI r.kind,.slice (zO d j) r.pn r.pc] 24)) (w.heap.size+1) r d j;unfold PN;have:=heap_alloc_new (w.alloc (.cells (ya (zn f)) 126)) (.cells #[zI r.queue,zI r.fr,zI r.un,zI r.kind,.slice (zO d j) r.pn r.pc] 24);rwa [World.size_alloc] at this
 obtain ⟨W0,W⟩:=qA ((w.alloc (.cells (ya (zn f)) 126)).alloc (.cells #[zI r.queue,zI r.fr,zI r.un,zI r.kind,.slice (some ⟨d,j,none⟩) r.pn r.pc] 24));obtain ⟨c,au⟩:=qA (w.heap.size);obtain ⟨B,S⟩:=qA (w.heap.size+1);have cb:w.heap.size+2<=W0.heap.size:=by rw [<-W];simp
 rw [W] at Q ap ad ao;rw [World.size_alloc,S] at Q;rw [S,au,W];rw [au] at ap;rw [S] at ao;have bD:c<W0.heap.size:=by omega
 have bV:B<W0.heap.size:=by omega
 have aE:=zh (show w.heap.size<=c/\w.heap.size<=B/\B≠c from by omega);have bW:c<W0.heap.size:=bD;clear W au S;obtain ⟨p,c1,c2,c3,c4⟩:=Q.o W0 (Below.refl _ _);go_wp2_with fail
 go_loopw [9,10,11] (fun v bR aA wr=>∃ (k:Nat) (g bs:zd),aA=zI k/\k<=r.pn/\bR=zI r.fr/\yC r f k=some (g,bs)/\zW g/\ZU wr c (zn g)/\PN wr B r d j/\zP wr W0.heap.size v bs/\zL w wr/\W0.heap.size<=wr.heap.size) (fun _ _ aA _=>r.pn-(intOf aA).toNat)
 case atStart=>exact ⟨0,f,[],rfl,by omega,rfl,rfl,bn.o,ap.o,ao.o,World.ownsRow_nil _ _ _ _,ad.o,Nat.le_refl _⟩
 case round =>
  clear p c1 c2 c3 c4;obtain ⟨k,g,bs,rfl,F,rfl,az,a4,bc,a2,a7,a0,cd⟩:=hrel;have al:=zh az;have aL:=zh a4;have aQ:=zh bc;have aG:=zh a2;have ai:=zh a7;have H:=zh a0;have a1:bs.length=k:=Rb az;have af:=zh a1;have bX:c<wr.heap.size:=by omega
  have bC:B<wr.heap.size:=by omega
  have b9:d<wr.heap.size:=Nat.lt_of_lt_of_le (block_lt_of_cell (aj.o 0 bb).1) (by omega);clear az a4 bc a2 a7 a0 a1;obtain ⟨p,c1,c2,c3,c4⟩:=aG.o.cells;by_cases G:k<r.pn
  ·have b7:(k:Int)<r.pn:=(by omega);have aS:=cell_later H.o (aj.o k G).1;have aT:=cell_later H.o (aj.o k G).2;have bL:=br.o k G;obtain ⟨A,C⟩:=qB (wr.alloc (.cells #[zI (zp r.ps k),zI (rN r.ps k)] 64));have am:Zh (ZU (wr.alloc (.cells #[zI (zp r.ps k),zI (rN r.ps k)] 64)) c (zn g)):=aQ.o.alloc _;have aC:zL wr A:=(by rw [C];exact zr _ _);have P:=bx.o A g aL.o r.fr k G (by have:=aP.o;omega) (by have:=aP.o;omega);have aY:=Wi r g r.fr k;obtain ⟨X,aw⟩:=qA (yj r g r.fr k);rw [aw] at P aY;have an:=zh aw;obtain ⟨L,U⟩:=qA (zp r.ps k);obtain ⟨M,V⟩:=qA (rN r.ps k);have aN:=zh U;have aO:=zh V;rw [U,V] at bL P C am;rw [U] at aS;rw [V] at aT;have aq:A.cell? (zA wr.heap.size 0)=some (zI L):=(by rw [C];go_simp);have ar:A.cell? (zA wr.heap.size 1)=some (zI M):=(by rw [C];go_simp);have aI:=zh aq;have aK:=zh ar;have aR:=zh C;have ah:=zh P;have aF:=zh aC;clear aw U V aq ar C P aC;obtain ⟨x,y,z⟩:=X;simp only at ah aY;go_wp2_with (refine wpList_load_row rfl 126 (.tmp 2) rfl c rfl 126 (ya (zn g)) (0,0) _ am.o Tryz.underlying126 rfl (size61 _) ?_)
   rw [<-aR.o];refine ah.o.mono ?_;rintro e l ⟨rfl,D⟩;have Y:=za aF.o D;have ag:=zh Y;have aJ:=zh (cell_later D aI.o);have bl:=zh (cell_later D aK.o);have J:=zh (ai.o.keep Y);have cc:W0.heap.size<=l.heap.size:=(by have:=Y.size;omega);have bF:wr.heap.size<l.heap.size:=block_lt_of_cell aJ.o;clear D Y p c1 c2 c3 c4 aS aT aR ah aF aI aK am;have I:=zh (za H.o ag.o);have aH:Zh (PN l B r d j):=(ag.o.block _ bC).trans aG.o;have bv:=zh (aQ.o.later ag.o);obtain ⟨p,c1,c2,c3,c4⟩:=aH.o.cells;cases y with
   | false =>
    have ak:Zh (yC r f (k+1)=none):=(by show yC r f (k+1)=none;rw [yC,al.o];simp only [an.o];rfl);have ae:Zh (([],false)=u):=(by show ([],false)=u;rw [<-aD.o,XC bp.o ak.o (by omega)];rfl);go_wp2;go_ret2
    rw [<-ae.o];exact ws I.o
   | true =>
    have ak:Zh (yC r f (k+1)=some ((yV g x (x+L) (-M)).1,bs++[((k:Int),x)])):=(by show yC r f (k+1)=_;rw [yC,al.o];simp only [an.o,aN.o,aO.o];rfl);obtain ⟨bU,a5,aZ,bd⟩:=bz.o g aL.o k G x L M z an.o aN.o aO.o;have bm:=zh a5;have bj:=zh aZ;have bu:=zh bd;clear a5 aZ bd;have bh:True:=trivial;go_wp2_with (at_builtin;have _t:=bh;refine wpList_append_own _ rfl _ _ 58 rfl W0.heap.size 62 bQ (.agg #[zI 0,zI 0]) 2 16 Tryz.underlying58 bH bM bN bO rfl (by decide) _ _ _ rfl (J.o.alloc _) (zA l.heap.size 0) 1 1 [zI k,zI x] rfl rfl ?c1 ?c2 ?c3 ?c4 ?c5 ?_;clear bh)
    case c1=>exact XG _ _ _ _
    case c2=>exact XH _ _
    case c3=>have:=af.o;simp only [maxLen];omega
    case c4=>have:=af.o;omega
    case c5=>simp;omega
    intro aB m a8 Z _;have ca:l.heap.size<m.heap.size:=(by have:=Z.size;simp at this;omega);have aa:∀ b,b<l.heap.size->u9.ownBlock≠some b->m.heap[b]?=l.heap[b]?:=fun b D bK=>(Z.block b (by simp;omega) (fun e=>bK e.symm)).trans (Below.heap_alloc _ _ _ D);have aW:zP m W0.heap.size aB (bs++[((k:Int),x)]):=(by unfold zP;rw [YD];simpa using a8);have aX:zL w m:=(I.o.alloc I.o.size _).grown Z (by have:=I.o.size;simp;omega) (fun k F=>by have:=(J.o.lt k F).1;omega);have aU:m.heap[B]?=l.heap[B]?:=aa _ (by omega) (fun e=>by have:=(J.o.lt _ e).1;omega);have aV:m.heap[c]?=l.heap[c]?:=aa _ (by omega) (fun e=>by have:=(J.o.lt _ e).1;omega);have av:m.heap[wr.heap.size]?=l.heap[wr.heap.size]?:=aa _ bF (fun e=>by have:=(ai.o.lt _ e).2;omega);have aM:Zh (Keeps w m c B W0.heap.size wr.heap.size r d j aB (bs++[((k:Int),x)]) L M):=⟨aU.trans aH.o,aW,aX,by omega,(World.cell?_of_block (w:=l) (a:=(zA wr.heap.size 0)) av).trans aJ.o,(World.cell?_of_block (w:=l) (a:=(zA wr.heap.size 1)) av).trans bl.o⟩;have bw:Zh (ZU m c (zn g)):=aV.trans bv.o;obtain ⟨p,c1,c2,c3,c4⟩:=aM.o.box.cells;obtain ⟨ab,bf⟩:∃ ab:Nat,x=ab:=⟨x.toNat,by omega⟩;have O:=zh bf;clear a8 Z aa aU aV av aW aX bf;go_wp2_with fail
    go_loopw [15] (fun s bi=>∃ i:Nat,s=zI i/\x<=i/\(i:Int)<=x+L/\ZU bi c (Qx g x M i)/\Keeps w bi c B W0.heap.size wr.heap.size r d j aB (bs++[((k:Int),x)]) L M) (fun s _=>(x+L).toNat-(intOf s).toNat)
    case atStart=>exact ⟨ab,by rw [O.o],by rw [O.o];exact Int.le_refl _,by have:=O.o;omega,by rw [MO g x M ab (by have:=O.o;omega)];exact bw.o,aM.o⟩
    obtain ⟨i,rfl,bI,bZ,be,a6⟩:=hrel;have N:=zh be;have n:=zh a6;clear be a6 p c1 c2 c3 c4;obtain ⟨p,c1,c2,c3,c4⟩:=n.o.box.cells;have aq:=n.o.p0;have ar:=n.o.p1;by_cases bG:(i:Int)<x+L
    ·have b0:(i:Int)<48:=(by omega);have ax:i<48:=(by omega);have bg:=N.o.cell (i:=i) ax;rw [Gb] at bg;have ce:=N.o.frozen i;have bP:=bj.o i ax;obtain ⟨q,ay⟩:=qA (zn g i);rw [ay] at bg bP;have bt:=zh ay;clear ay;go_wp2_with fail
     go_region
     all_goals (try go_wp2)
     all_goals go_roundw
     case rel=>exact ⟨i+1,by go_num,by omega,by omega,by rw [<-Kt g x M i bI,bt.o];exact N.o.set i _,(n.o.store (by have:=aE.o;omega) (by have:=aE.o;omega) (by omega) i _).drew⟩
     case measure=>simp [intOf];omega
    have bJ:(i:Int)=x+L:=(by omega);have bo:=zh bJ;have ax:¬((i:Int)<x+L):=bG;go_wp2_with fail
    go_roundw
    case rel=>exact ⟨k+1,_,_,by go_num,by omega,rfl,ak.o,bm.o,by have:=N.o;unfold ZU at this ⊢;rw [bu.o i bo.o] at this;exact this,n.o.box,n.o.own,n.o.bel,n.o.size⟩
    case measure=>simp [intOf];omega
  obtain rfl:k=r.pn:=by omega
  have ae:Zh ((bs,true)=u):=by show (bs,true)=u;rw [<-aD.o,al.o];rfl
  obtain ⟨bS,bT,rfl,bE⟩:=zP.parts ai.o (by have:=af.o;omega);go_wp2_with fail
  go_quiet (fail)
  go_wp2;go_ret2
  rw [<-ae.o];exact ⟨_,_,_,rfl,(bE.later (_root_.Go.below_drewN (Below.refl _ _) _)).mono ad.o.size,_root_.Go.below_drewN H.o _⟩
theorem Ee {a:Type} (o:Option (a×zd)) (h:(yB o).2=false):(yB o).1=[]:=by
 cases o with
 | none=>rfl
 | some x=>cases h
theorem Ez {r:Rq} {f:zd} (h:(Zf r f).2=false):(Zf r f).1=[]:=by
 unfold Zf at h ⊢
 split at h
 ·rename_i k;rw [if_pos k];exact Ee _ h
 rename_i k;rw [if_neg k]
 split at h
 ·rename_i k;rw [if_pos k];unfold P5 at h ⊢
  split at h
  ·cases h
  rfl
 rename_i k;rw [if_neg k]
 split at h
 ·rename_i k;rw [if_pos k];exact Ee _ h
 rename_i k;rw [if_neg k];unfold Yu at h ⊢
 split at h
 ·exact Ee _ h
 rfl
theorem Nf (w:World) (f:zd) (b:zW f) (r:Rq) (h:zH w r) (a:z8 false r=0) :
 zC 70 #[.agg (ya (zn f)),.agg #[zI r.queue,zI r.fr,zI r.un,zI r.kind,.slice r.pa r.pn r.pc]] w fun e w'=>zzMk w w' e (Zf r f):=by
 have i:=of_decide_eq_true (zv.1 a).1;unfold Zf;by_cases c:r.kind=1
 ·rw [if_pos c];exact (KE w f b r h a c).mono fun e w' q=>q.weak
 ·rw [if_neg c];by_cases d:r.kind=2
  ·rw [if_pos d];exact KG w f b r h a d
  rw [if_neg d];by_cases g:r.kind=3
  ·rw [if_pos g];exact (KJ w f b r h a g).mono fun e w' q=>q.weak
  rw [if_neg g];exact (KY w f b r h a (by omega)).mono fun e w' q=>q.weak
end Go.Proofs.YtckpdfkobdgjeaaGreatDoor
