/- Several texts in one: LogA, LogB, LogC, LogD. -/
import Derived.Test.YtckpdfkobdgjeaaGreatDoorJAll5
import Derived.Lib.AppendZeros
import Derived.Laws.BytesArg
namespace Go.Proofs.YtckpdfkobdgjeaaGreatDoor
set_option maxRecDepth 100000
set_option maxHeartbeats 4000000
open Go.RowKit
set_option linter.unusedSectionVars false
variable [Inhabited Mk]
def Xe (w:World) (B:Nat) (v:Value) (l:List Int):Prop:=w.ownsRow B 5 1 v l.length (l.map (Value.int .u8))
structure Wr (w:World) (B G:Nat) (v:Value) (bs:List Int) (wide:Bool):Prop where
 box:w.heap[G]?=some (.cells #[v,.bool wide] 74 (0,0))
 row:Xe w B v bs
 apart:v.ownBlock≠some G
def wu (x:Int):Bool:=decide (x<0)||decide (255<x)
def u8 (x:Int):Int:=x % 256
theorem Ko (w:World) (B:Nat) (v:Value) (l:List Int) (h:Xe w B v l) (y:Int) (a:Nat) (s:w.heap[a]?=some (.cells #[.int .u8 y] 5 (0,0))) (A:l.length<=100000) (r:B<=w.heap.size) :
 ∃ g k w',(∀ c,(Builtin.append_ #[72,72] c #[v,.slice (zO a 0) 1 1]).run Tryz.prog w=.ok (.slice (zO g 0) (l.length+1) k) w')/\Xe w' B (.slice (zO g 0) (l.length+1) k) (l++[y])/\w.grownBy w' v.ownBlock/\(v.ownBlock=some g\/g=w.heap.size):=by
 obtain ⟨x,t,e⟩:=Option.map_eq_some_iff.1 (show (Tryz.prog.info? 5).map (fun i=>(i.zero,i.size,i.bytes))=some (some (.int .u8 0),1,1) from by kernel_rfl);simp only [Prod.mk.injEq] at e;obtain ⟨d,f,m⟩:=e;obtain ⟨g,k,w',n,o,p,q,z⟩:=run_append_lies w 72 0 B 5 x _ 1 1 Tryz.underlying72 t d f m (by rfl) (by omega) v l.length _ h (zA a 0) 1 1 [.int .u8 y] (by simp)
  (fun j u b=>by rw [Addr.add_lit,Nat.zero_add,cell_of_row w a j _ _ _ s];simpa using b) (fun u b=>by simp only [List.mem_singleton] at b;subst b;rfl) (by omega) (by simp only [maxLen];omega) (by omega) r w.heap.size rfl
 refine ⟨g,k,w',fun c=>n,?_,p,q⟩;unfold Xe;rw [List.length_append,List.map_append];exact o
theorem Wr.later {w w':World} {B a:Nat} {v:Value} {bs:List Int} {c:Bool} (h:Wr w B a v bs c) (b:Below w.heap.size w w'):Wr w' B a v bs c :=
 ⟨(b.block a (Array.getElem?_eq_some_iff.1 h.box).1).trans h.box,zT h.row b,h.apart⟩
structure Puts (w w':World) (B G:Nat) (v v':Value):Prop where
 below:Below B w w'
 blk:∀ k,k<w.heap.size->k≠G->v.ownBlock≠some k->w'.heap[k]?=w.heap[k]?
 own:∀ k,v'.ownBlock=some k->v.ownBlock=some k\/w.heap.size<=k
theorem Puts.refl {w:World} {B a:Nat} {v:Value}:Puts w w B a v v:=⟨Below.refl _ _,fun _ _ _ _=>rfl,fun _ h=>Or.inl h⟩
theorem Puts.trans {w l m:World} {B b:Nat} {v i j:Value} (h:Puts w l B b v i) (c:Puts l m B b i j):Puts w m B b v j:=by
 have n:=h.below.size;refine ⟨h.below.trans c.below,fun k d f g=>?_,fun k d=>?_⟩
 ·rw [c.blk k (by omega) f (fun e=>by rcases h.own k e with a | a;exact g a;omega),h.blk k d f g]
 rcases c.own k d with a | a
 ·exact h.own k a
 exact Or.inr (by omega)
theorem Puts.pre {w f g:World} {B c:Nat} {v e:Value} (h:Below w.heap.size w f) (i:B<=w.heap.size) (a:Puts f g B c v e):Puts w g B c v e:=by
 have l:=h.size;refine ⟨(h.mono i).trans a.below,fun k b j hn=>(a.blk k (by omega) j hn).trans (h.block k b),fun k b=>?_⟩;rcases a.own k b with d | d
 ·exact Or.inl d
 exact Or.inr (by omega)
theorem UR (wr:World) (B a:Nat) (d:Value) (l:List Int) (I:Bool) (h:Wr wr B a d l I) (j:Bool) (y:Int) (V:B<=wr.heap.size) (C:B<=a) (P:l.length<=100000) :
 ∃ g i b,(∀ U,(Builtin.append_ #[72,72] U #[d,.slice (zO wr.heap.size 0) 1 1]).run Tryz.prog ((wr.setCell (zA a 1) (.bool j)).alloc (.cells #[.int .u8 y] 5))=.ok (.slice (zO g 0) (l.length+1) i) b)/\b.cell? (zA a 0)=some d/\b.frozen? (zA a 0)=false /\
  Wr (b.setCell (zA a 0) (.slice (zO g 0) (l.length+1) i)) B a (.slice (zO g 0) (l.length+1) i) (l++[y]) j/\Puts wr (b.setCell (zA a 0) (.slice (zO g 0) (l.length+1) i)) B a d (.slice (zO g 0) (l.length+1) i):=by
 obtain ⟨c,n⟩:=qB (wr.setCell ⟨a,1,none⟩ (.bool j));obtain ⟨f,q⟩:=qB (c.alloc (.cells #[.int .u8 y] 5));have W:a<wr.heap.size:=(Array.getElem?_eq_some_iff.1 h.box).1;have G:c.heap.size=wr.heap.size:=by rw [n];simp [World.setCell]
 have J:c.heap[a]?=some (.cells #[d,.bool j] 74 (0,0)):=by rw [n];exact heap_setCell_same wr a 1 _ _ _ h.box
 have H:∀ k,k≠a->c.heap[k]?=wr.heap[k]?:=fun k s=>by rw [n];exact heap_setCell_other wr (zA a 1) k _ s
 have r:zL c f:=by rw [q];exact zr _ _
 have F:Xe f B d l:=by
  have w:Xe c B d l:=by
   refine ⟨h.row.1,?_⟩;rcases h.row.2 with Q | ⟨g,u,v,rfl,x,hg,rest⟩
   ·exact .inl Q
   exact .inr ⟨g,u,v,rfl,x,(H g (fun e=>h.apart (by rw [e];rfl))).trans hg,rest⟩
  exact zT w r
 have M:f.heap[wr.heap.size]?=some (.cells #[.int .u8 y] 5 (0,0)):=by rw [q,<-G];exact heap_alloc_new c _
 have Y:f.heap.size=wr.heap.size+1:=by rw [q];simp [G]
 obtain ⟨g,i,b,w,L,o,A⟩:=Ko f B d l F y wr.heap.size M P (by omega);have D:g≠a:=fun e=>by
  rcases A with m | m
  ·exact h.apart (by rw [<-e];exact m)
  omega
 have t:b.heap[a]?=some (.cells #[d,.bool j] 74 (0,0)):=by
  rw [o.block a (by omega) (fun e=>h.apart e.symm),r.block a (by omega)];exact J
 have X:=o.size;have N:Below B wr b:=by
  have R:Below B wr c:=by rw [n];exact (Below.refl B wr).setCell (p:=(zA a 1)) C _
  have S:Below B wr f:=R.trans (r.mono (by omega));exact S.grown o (by omega) (fun k e=>(F.lt k e).1)
 refine ⟨g,i,b,by rw [<-n,<-q];exact w,by rw [cell_of_row b a 0 _ _ _ t];rfl,frozen_of_row b a 0 _ _ t,⟨?_,?_,fun e=>D (xP.1 e)⟩,⟨N.setCell (p:=(zA a 0)) C _,fun k s E O=>?_,fun k s=>?_⟩⟩
 ·rw [heap_setCell_same b a 0 _ _ _ t];rfl
 ·refine ⟨by rw [List.length_append,List.length_map];rw [List.length_append];simp,?_⟩;rcases L.2 with ⟨e,_⟩ | ⟨z,u,v,e,x,hg,rest⟩
  ·cases e
  refine .inr ⟨z,u,v,e.trans (by simp),x,?_,rest⟩;injection e with e;injection e with e;injection e with e;rw [heap_setCell_other b (zA a 0) z _ (by rw [<-e];exact D)];exact hg
 ·rw [heap_setCell_other b (zA a 0) k _ E,o.block k (by omega) (fun e=>O e.symm),r.block k (by omega),H k E]
 ·have e:=xP.1 s;subst e;rcases A with m | m
  ·exact Or.inl m
  exact Or.inr (by omega)
theorem Su {bs a l:List Int} {n k:Nat} {x:Int} (hn:n=a.length) (d:k<n) (c:a.getD k 0=x) (b:bs++(a.take k).map u8=l):bs++(a.take (k+1)).map u8=l++[x % 256]:=by
 have e:a[k]'(by omega)=x:=by rw [<-c];simp [List.getD,show k<a.length by omega]
 rw [List.take_succ_eq_append_getElem (by omega),List.map_append,<-List.append_assoc,b,e];rfl
theorem UX {a:List Int} {n k:Nat} {x:Int} {c b:Bool} (hn:n=a.length) (g:k<n) (f:a.getD k 0=x) (d:(c||(a.take k).any wu)=b):(c||(a.take (k+1)).any wu)=(b||wu x):=by
 have e:a[k]'(by omega)=x:=by rw [<-f];simp [List.getD,show k<a.length by omega]
 rw [List.take_succ_eq_append_getElem (by omega),List.any_append,<-Bool.or_assoc,d,e];simp
theorem UQ (w:World) (B c:Nat) (v:Value) (bs:List Int) (M:Bool) (h:Wr w B c v bs M) (a:Option Addr) (n aa:Nat) (t:List Int) (F:IntsIn w a n aa t) (ab:∀ b ap,a=zO b ap->b≠c/\v.ownBlock≠some b) (hn:bs.length+n<=100000) (aw:B<=w.heap.size) (L:B<=c) :
 zC 29 #[.pointer (zO c 0),.slice a n aa] w fun e w'=>e=.returned (.tuple #[])/\∃ d,Wr w' B c d (bs++t.map u8) (M||t.any wu)/\Puts w w' B c v d:=by
 have ae:=F.len;have az:=F.le;have ax:=F.capb;have ak:=zh F;have ah:=zh ab;have q:=zh ae;have ag:=zh h;clear F ab ae h;go_enter Tryz.func29,Tryz.ntmps29;go_wp2;go_loopg [8] n (fun an (p:Value) wr=>∃ (k:Nat) (d:Value),p=zI k/\k<=n/\an=n-k/\Wr wr B c d (bs++(t.take k).map u8) (M||(t.take k).any wu)/\Puts w wr B c v d)
 case atStart=>exact ⟨0,v,rfl,by omega,by omega,by simpa using ag.o,Puts.refl⟩
 case round =>
  obtain ⟨k,d,rfl,ay,rfl,s,E⟩:=hrel;by_cases r:k<n
  ·have aA:(k:Int)<n:=(by omega);obtain ⟨N,af,ad,W⟩:=ak.o.cells (by omega);obtain ⟨al,am⟩:=ah.o N af ad;have R:=W k r;have ao:N<w.heap.size:=block_lt_of_cell (W 0 (by omega));have R:wr.cell? (zA N (af+k))=some (zI (t.getD k 0)):=(World.cell?_of_block (w:=w) (E.blk N ao al am)).trans R;obtain ⟨x,Y⟩:=qA (t.getD k 0);rw [Y] at R;obtain ⟨J,V⟩:=qA ((M||(t.take k).any wu));rw [V] at s;obtain ⟨l,X⟩:=qA (bs++(t.take k).map u8);rw [X] at s;have aq:wr.cell? (zA c 0)=some d:=(by rw [cell_of_row wr c 0 _ _ _ s.box];rfl);have b1:wr.cell? (zA c 1)=some (.bool J):=(by rw [cell_of_row wr c 1 _ _ _ s.box];rfl);have ar:∀ m,wr.frozen? (zA c m)=false:=fun m=>frozen_of_row wr c m _ _ s.box;have H:=zh s;have j:=zh E;have u:=zh Y;have I:=zh V;have C:=zh X;subst ad;clear s E W Y V X;have G:Zh (l.length<=100000):=(by show l.length<=100000;rw [<-C.o,List.length_append,List.length_map,List.length_take];omega);cases J with
   | true =>
    obtain ⟨g,Z,O,A,P,Q,i,f⟩:=UR wr B c d l true H.o true (x % 256) (by have:=j.o.below.size;omega) L (by have:=G.o;omega);have z:=zh i;have y:=zh f;clear i f;go_wp2_with (at_builtin;refine Lib.wpList_append_run _ rfl _ _ _ _ rfl _ _ rfl rfl _ _ (A _) ?_)
    go_roundg (n-(k+1))
    case measure=>omega
    refine ⟨k+1,_,by go_num,by omega,by omega,?_,j.o.trans y.o⟩;rw [Su q.o r u.o C.o,UX q.o r u.o I.o,Bool.true_or];exact z.o
   | false =>
    by_cases S:x<0
    ·have D:wu x=true:=(by simp [wu,S]);obtain ⟨g,Z,O,A,P,Q,i,f⟩:=UR wr B c d l false H.o true (x % 256) (by have:=j.o.below.size;omega) L (by have:=G.o;omega);have z:=zh i;have y:=zh f;clear i f;go_wp2_with (at_builtin;refine Lib.wpList_append_run _ rfl _ _ _ _ rfl _ _ rfl rfl _ _ (A _) ?_)
     go_roundg (n-(k+1))
     case measure=>omega
     refine ⟨k+1,_,by go_num,by omega,by omega,?_,j.o.trans y.o⟩;rw [Su q.o r u.o C.o,UX q.o r u.o I.o,D,Bool.false_or];exact z.o
    by_cases U:255<x
    ·have D:wu x=true:=(by simp [wu,U]);obtain ⟨g,Z,O,A,P,Q,i,f⟩:=UR wr B c d l false H.o true (x % 256) (by have:=j.o.below.size;omega) L (by have:=G.o;omega);have z:=zh i;have y:=zh f;clear i f;go_wp2_with (at_builtin;refine Lib.wpList_append_run _ rfl _ _ _ _ rfl _ _ rfl rfl _ _ (A _) ?_)
     go_roundg (n-(k+1))
     case measure=>omega
     refine ⟨k+1,_,by go_num,by omega,by omega,?_,j.o.trans y.o⟩;rw [Su q.o r u.o C.o,UX q.o r u.o I.o,D,Bool.false_or];exact z.o
    have D:wu x=false:=(by simp only [wu,Bool.or_eq_false_iff,decide_eq_false_iff_not];exact ⟨S,U⟩);have au:decide (x<0)=false:=decide_eq_false S;have av:decide (255<x)=false:=decide_eq_false U;have aB:0<=x/\x<=255:=(by omega);obtain ⟨g,Z,O,A,P,Q,i,f⟩:=UR wr B c d l false H.o false x (by have:=j.o.below.size;omega) L (by have:=G.o;omega);have z:=zh i;have y:=zh f;clear i f;go_wp2_with (at_builtin;refine Lib.wpList_append_run _ rfl _ _ _ _ rfl _ _ rfl rfl _ _ (A _) ?_)
    go_roundg (n-(k+1))
    case measure=>omega
    refine ⟨k+1,_,by go_num,by omega,by omega,?_,j.o.trans y.o⟩;rw [Su q.o r u.o C.o,UX q.o r u.o I.o,D,Bool.false_or,show x % 256=x by omega];exact z.o
  obtain rfl:k=n:=by omega
  have aj:=zh s;have j:=zh E;clear s E;go_wp2;have hfin:=aj.o;rw [q.o,List.take_length] at hfin;have ai:=zh hfin;clear hfin;go_end0
  exact ⟨rfl,d,ai.o,j.o⟩
theorem N3 (w:World) (a b:Int):IntsIn (w.alloc (.cells #[zI a,zI b] 3)) (zO w.heap.size 0) 2 2 [a,b]:=by
 have h:=heap_alloc_new w (.cells #[zI a,zI b] 3);refine ⟨rfl,Nat.le_refl _,by omega,fun _=>⟨w.heap.size,0,rfl,fun i c=>?_⟩⟩;rw [Nat.zero_add,cell_of_row _ _ i _ _ _ h]
 match i,c with
 | 0,_=>rfl
 | 1,_=>rfl
theorem NE (w:World) (a:Int):IntsIn (w.alloc (.cells #[zI a] 3)) (zO w.heap.size 0) 1 1 [a]:=by
 have h:=heap_alloc_new w (.cells #[zI a] 3);refine ⟨rfl,Nat.le_refl _,by omega,fun _=>⟨w.heap.size,0,rfl,fun i b=>?_⟩⟩;rw [Nat.zero_add,cell_of_row _ _ i _ _ _ h]
 match i,b with
 | 0,_=>rfl
theorem QC (w:World) (a b:Int) :
 zC 72 #[.iface 64 (.agg #[zI a,zI b])] w fun e w'=>∃ g,e=.returned (.slice (zO g 0) 2 2)/\w.heap.size<=g/\IntsIn w' (zO g 0) 2 2 [a,b]/\Below w.heap.size w w':=by
 have f:∀ (c:World) (v:Value),(Instr.typeAssert (.iface 64 v) 20 64 true).run Tryz.prog c=.ok (.tuple #[v,.bool true]) c:=fun c v=>by kernel_rfl
 obtain ⟨S,d⟩:=qA (w.heap.size);go_enter Tryz.func72,Tryz.ntmps72;go_wp2;go_ret;refine ⟨_,rfl,?_,?_,?_⟩
 ·omega
 ·have:=N3 (w.alloc (.cells #[zI a,zI b] 64)) a b;rw [World.size_alloc,d] at this;exact this
 ·exact (zr _ _).alloc (by simp) _
theorem NC (w:World) (a b:Int) :
 zC 72 #[.iface 55 (.agg #[zI a,zI b])] w fun e w'=>∃ g,e=.returned (.slice (zO g 0) 2 2)/\w.heap.size<=g/\IntsIn w' (zO g 0) 2 2 [a,b]/\Below w.heap.size w w':=by
 have f:∀ (c:World) (v:Value),(Instr.typeAssert (.iface 55 v) 20 55 true).run Tryz.prog c=.ok (.tuple #[v,.bool true]) c:=fun c v=>by kernel_rfl
 have hn:∀ (c:World) (v:Value),(Instr.typeAssert (.iface 55 v) 20 64 true).run Tryz.prog c=.ok (.tuple #[.agg #[zI 0,zI 0],.bool false]) c:=fun c v=>by kernel_rfl
 obtain ⟨S,d⟩:=qA (w.heap.size);go_enter Tryz.func72,Tryz.ntmps72;go_wp2;go_ret;refine ⟨_,rfl,?_,?_,?_⟩
 ·omega
 ·have:=N3 (w.alloc (.cells #[zI a,zI b] 55)) a b;rw [World.size_alloc,d] at this;exact this
 ·exact (zr _ _).alloc (by simp) _
def WC (p:Int×Int):Bool:=wu p.1||wu p.2
def wL (l:zd):List Int:=l.flatMap fun p=>[p.1,p.2]
theorem ZQ (l:zd):(wL l).length=2*l.length:=by
 unfold wL
 induction l with
 | nil=>rfl
 | cons p l ih=>simp [List.flatMap_cons] at ih ⊢;omega
theorem Px {l:zd} {k:Nat} (a:k<l.length):l.take (k+1)=l.take k++[(zp l k,rN l k)]:=by
 rw [List.take_succ_eq_append_getElem a]
 congr 2
 simp [zp,rN,List.getD,a]
theorem RF {l:zd} {k:Nat} (a:k<l.length):wL (l.take (k+1))=wL (l.take k)++[zp l k,rN l k]:=by
 rw [Px a];simp [wL]
theorem Ph {l:zd} {k:Nat} (a:k<l.length):(l.take (k+1)).any WC=((l.take k).any WC||(wu (zp l k)||wu (rN l k))):=by
 rw [Px a];simp [WC]
structure ListPut (w w':World) (B G:Nat) (v:Value) (bs:List Int) (wide:Bool) (l:zd) (W:Bool):Prop where
 put:∃ v' bs',Wr w' B G v' bs' W/\Puts w w' B G v v'/\bs'.length<=bs.length+600/\(W=false->bs'=bs++(((l.length:Int)::wL l).map u8))
 wide:W=(wide||wu l.length||l.any WC)
theorem Ob (w:World) (B c:Nat) (v:Value) (bs:List Int) (r:Bool) (h:Wr w B c v bs r) (a:Option Addr) (n af:Nat) (l:zd) (m:RunsIn w a n af l) (ak:0<n->∀ b Z,a=zO b Z->b≠c/\v.ownBlock≠some b) (hn:bs.length<=5000) (aO:B<=w.heap.size) (ai:B<=c) :
 zC 30 #[.pointer (zO c 0),.slice a n af] w fun e w'=>e=.returned (.tuple #[])/\∃ d,ListPut w w' B c v bs r l d:=by
 have a5:=m.le;have aZ:=m.bound;have a1:=m.capb;have aY:c<w.heap.size:=(Array.getElem?_eq_some_iff.1 h.box).1;obtain ⟨u,F⟩:=qB (w.alloc (.cells #[zI n] 3));have I:zL w u:=by rw [F];exact zr _ _
 have al:IntsIn u (zO w.heap.size 0) 1 1 [(n:Int)]:=by rw [F];exact NE w n
 have aQ:=I.size;have aH:=zh (UQ u B c v bs r (h.later I) _ 1 1 [(n:Int)] al (fun b Z e=>by
  injection e with e;injection e with e;subst e;exact ⟨by omega,fun Q=>by have:=(h.row.lt _ Q).2;omega⟩) (by omega) (by omega) ai)
 have aA:=zh m;have az:=zh ak;have D:=zh m.len;have ay:=zh I;have aF:=zh F;have aV:=zh h.row;clear m ak h I al F;go_enter Tryz.func30,Tryz.ntmps30;go_wp2_with fail
 rw [<-aF.o];refine aH.o.mono ?_;rintro e a8 ⟨rfl,aS,V,ap⟩;have aB:=zh (Puts.pre ay.o aO ap);have aj:bs++[(n:Int)].map u8=bs++((n:Int)::wL (l.take 0)).map u8:=by simp [wL]
 have aw:(r||[(n:Int)].any wu)=(r||wu n||(l.take 0).any WC):=by simp
 rw [aj,aw] at V;have aE:=zh V;clear V ap aj aw aQ;go_wp2_with fail
 go_loopg [13] n (fun aN (p:Value) wr=>∃ (k:Nat) (i:Value) (g:List Int) (d:Bool),p=zI k/\k<=n/\aN=n-k/\(0<k->n<=255)/\Wr wr B c i g d/\d=(r||wu n||(l.take k).any WC)/\g=bs++((n:Int)::wL (l.take k)).map u8/\Puts w wr B c v i)
 case atStart=>exact ⟨0,aS,_,_,rfl,by omega,by omega,fun h=>by omega,aE.o,rfl,rfl,aB.o⟩
 case round =>
  obtain ⟨k,i,g,d,rfl,a4,rfl,ah,N,H,z,q⟩:=hrel;have A:=D.o;have L:g.length=bs.length+1+2*k:=by
   rw [z,List.length_append,List.length_map,List.length_cons,ZQ,List.length_take];omega
  have P:=zh L;clear A L;by_cases ao:k<n
  ·have a6:(k:Int)<n:=(by omega);obtain ⟨C,aa,ax,M⟩:=aA.o.cells (by omega);obtain ⟨aL,aM⟩:=az.o (by omega) C aa ax;have aR:C<w.heap.size:=block_lt_of_cell (M 0 (by omega)).1;have U:=q.blk C aR aL aM;have aK:wr.cell? (zA C (aa+k*2))=some (zI (zp l k)):=(World.cell?_of_block (w:=w) U).trans (M k ao).1;have c1:wr.cell? (zA C (aa+k*2+1))=some (zI (rN l k)):=(World.cell?_of_block (w:=w) U).trans (M k ao).2;obtain ⟨x,X⟩:=qA (zp l k);obtain ⟨y,Y⟩:=qA (rN l k);rw [X] at aK;rw [Y] at c1;obtain ⟨f,G⟩:=qB (wr.alloc (.cells #[zI x,zI y] 64));have S:zL wr f:=(by rw [G];exact zr _ _);have W:=N.later S;have b1:f.cell? (zA c 1)=some (.bool d):=(by rw [cell_of_row f c 1 _ _ _ W.box];rfl);have a0:=q.below.size;have aq:Puts w f B c v i:=q.trans (Puts.pre S (by omega) Puts.refl);have ad:=zh X;have ae:=zh Y;have ab:=zh G;have j:=zh W;have s:=zh aq;have t:=zh H;have O:=zh z;rw [G] at b1;subst ax;clear N q M X Y G S W aq H z U;cases d with
   | true =>
    go_wp2;rw [<-ab.o];refine bodyPost_ret (results_none rfl _ _ _) rfl ?_;have L:=P.o;refine ⟨rfl,true,⟨i,g,j.o,s.o,?_,nofun⟩,?_⟩
    ·by_cases e:0<k
     ·have:=ah e;omega
     omega
    have E:=t.o;rw [<-D.o];have R:l.any WC=((l.take k).any WC||(l.drop k).any WC):=(by rw [<-List.any_append,List.take_append_drop]);rw [R,<-Bool.or_assoc,<-E];rfl
   | false =>
    have aP:n<=255:=by
     have E:=t.o.symm;simp only [Bool.or_eq_false_iff] at E;have R:=E.1.2;simp only [wu,Bool.or_eq_false_iff,decide_eq_false_iff_not] at R;omega
    have aJ:=zh (QC f x y);go_wp2_with fail
    rw [<-ab.o];refine aJ.o.mono ?_;rintro e aU ⟨aW,rfl,a2,am,J⟩;have au:=j.o.later J;have a3:=J.size;have aX:c<f.heap.size:=(Array.getElem?_eq_some_iff.1 j.o.box).1;have a7:=s.o.below.size;have aI:=zh (UQ aU B c i g false au _ 2 2 [x,y] am (fun b Z e=>by
     injection e with e;injection e with e;subst e;exact ⟨by omega,fun Q=>by have:=(j.o.row.lt _ Q).2;omega⟩) (by have:=P.o;omega) (by omega) ai)
    have aC:=zh (s.o.trans (Puts.pre J (by omega) Puts.refl));clear au am J;go_wp2_with fail
    refine aI.o.mono ?_;rintro e a9 ⟨rfl,aT,av,ar⟩;have aG:=zh av;have aD:=zh (aC.o.trans ar);clear av ar;go_wp2;go_roundg (n-(k+1))
    case measure=>omega
    have an:k<l.length:=(by have:=D.o;omega);refine ⟨k+1,aT,_,_,by go_num,by omega,by omega,fun _=>aP,aG.o,?_,?_,aD.o⟩
    ·rw [Ph an,ad.o,ae.o,<-Bool.or_assoc,<-t.o];simp
    rw [O.o,RF an,ad.o,ae.o];simp
  obtain rfl:k=n:=by omega
  have j:=zh N;have s:=zh q;have t:=zh H;have O:=zh z;clear N q H z;go_wp2;go_end0
  have A:=D.o;have L:=P.o;have ag:l.take k=l:=by rw [A,List.take_length]
  refine ⟨rfl,d,⟨i,g,j.o,s.o,?_,fun _=>?_⟩,?_⟩
  ·by_cases e:0<k
   ·have:=ah e;omega
   omega
  ·rw [O.o,ag,A]
  rw [t.o,ag,A]
theorem Li (w:World) (B c:Nat) (v:Value) (bs:List Int) (r:Bool) (h:Wr w B c v bs r) (a:Option Addr) (n af:Nat) (l:zd) (m:RunsIn w a n af l) (ak:0<n->∀ b Z,a=zO b Z->b≠c/\v.ownBlock≠some b) (hn:bs.length<=5000) (aO:B<=w.heap.size) (ai:B<=c) :
 zC 31 #[.pointer (zO c 0),.slice a n af] w fun e w'=>e=.returned (.tuple #[])/\∃ d,ListPut w w' B c v bs r l d:=by
 have a5:=m.le;have aZ:=m.bound;have a1:=m.capb;have aY:c<w.heap.size:=(Array.getElem?_eq_some_iff.1 h.box).1;obtain ⟨u,F⟩:=qB (w.alloc (.cells #[zI n] 3));have I:zL w u:=by rw [F];exact zr _ _
 have al:IntsIn u (zO w.heap.size 0) 1 1 [(n:Int)]:=by rw [F];exact NE w n
 have aQ:=I.size;have aH:=zh (UQ u B c v bs r (h.later I) _ 1 1 [(n:Int)] al (fun b Z e=>by
  injection e with e;injection e with e;subst e;exact ⟨by omega,fun Q=>by have:=(h.row.lt _ Q).2;omega⟩) (by omega) (by omega) ai)
 have aA:=zh m;have az:=zh ak;have D:=zh m.len;have ay:=zh I;have aF:=zh F;have aV:=zh h.row;clear m ak h I al F;go_enter Tryz.func31,Tryz.ntmps31;go_wp2_with fail
 rw [<-aF.o];refine aH.o.mono ?_;rintro e a8 ⟨rfl,aS,V,ap⟩;have aB:=zh (Puts.pre ay.o aO ap);have aj:bs++[(n:Int)].map u8=bs++((n:Int)::wL (l.take 0)).map u8:=by simp [wL]
 have aw:(r||[(n:Int)].any wu)=(r||wu n||(l.take 0).any WC):=by simp
 rw [aj,aw] at V;have aE:=zh V;clear V ap aj aw aQ;go_wp2_with fail
 go_loopg [13] n (fun aN (p:Value) wr=>∃ (k:Nat) (i:Value) (g:List Int) (d:Bool),p=zI k/\k<=n/\aN=n-k/\(0<k->n<=255)/\Wr wr B c i g d/\d=(r||wu n||(l.take k).any WC)/\g=bs++((n:Int)::wL (l.take k)).map u8/\Puts w wr B c v i)
 case atStart=>exact ⟨0,aS,_,_,rfl,by omega,by omega,fun h=>by omega,aE.o,rfl,rfl,aB.o⟩
 case round =>
  obtain ⟨k,i,g,d,rfl,a4,rfl,ah,N,H,z,q⟩:=hrel;have A:=D.o;have L:g.length=bs.length+1+2*k:=by
   rw [z,List.length_append,List.length_map,List.length_cons,ZQ,List.length_take];omega
  have P:=zh L;clear A L;by_cases ao:k<n
  ·have a6:(k:Int)<n:=(by omega);obtain ⟨C,aa,ax,M⟩:=aA.o.cells (by omega);obtain ⟨aL,aM⟩:=az.o (by omega) C aa ax;have aR:C<w.heap.size:=block_lt_of_cell (M 0 (by omega)).1;have U:=q.blk C aR aL aM;have aK:wr.cell? (zA C (aa+k*2))=some (zI (zp l k)):=(World.cell?_of_block (w:=w) U).trans (M k ao).1;have c1:wr.cell? (zA C (aa+k*2+1))=some (zI (rN l k)):=(World.cell?_of_block (w:=w) U).trans (M k ao).2;obtain ⟨x,X⟩:=qA (zp l k);obtain ⟨y,Y⟩:=qA (rN l k);rw [X] at aK;rw [Y] at c1;obtain ⟨f,G⟩:=qB (wr.alloc (.cells #[zI x,zI y] 55));have S:zL wr f:=(by rw [G];exact zr _ _);have W:=N.later S;have b1:f.cell? (zA c 1)=some (.bool d):=(by rw [cell_of_row f c 1 _ _ _ W.box];rfl);have a0:=q.below.size;have aq:Puts w f B c v i:=q.trans (Puts.pre S (by omega) Puts.refl);have ad:=zh X;have ae:=zh Y;have ab:=zh G;have j:=zh W;have s:=zh aq;have t:=zh H;have O:=zh z;rw [G] at b1;subst ax;clear N q M X Y G S W aq H z U;cases d with
   | true =>
    go_wp2;rw [<-ab.o];refine bodyPost_ret (results_none rfl _ _ _) rfl ?_;have L:=P.o;refine ⟨rfl,true,⟨i,g,j.o,s.o,?_,nofun⟩,?_⟩
    ·by_cases e:0<k
     ·have:=ah e;omega
     omega
    have E:=t.o;rw [<-D.o];have R:l.any WC=((l.take k).any WC||(l.drop k).any WC):=(by rw [<-List.any_append,List.take_append_drop]);rw [R,<-Bool.or_assoc,<-E];rfl
   | false =>
    have aP:n<=255:=by
     have E:=t.o.symm;simp only [Bool.or_eq_false_iff] at E;have R:=E.1.2;simp only [wu,Bool.or_eq_false_iff,decide_eq_false_iff_not] at R;omega
    have aJ:=zh (NC f x y);go_wp2_with fail
    rw [<-ab.o];refine aJ.o.mono ?_;rintro e aU ⟨aW,rfl,a2,am,J⟩;have au:=j.o.later J;have a3:=J.size;have aX:c<f.heap.size:=(Array.getElem?_eq_some_iff.1 j.o.box).1;have a7:=s.o.below.size;have aI:=zh (UQ aU B c i g false au _ 2 2 [x,y] am (fun b Z e=>by
     injection e with e;injection e with e;subst e;exact ⟨by omega,fun Q=>by have:=(j.o.row.lt _ Q).2;omega⟩) (by have:=P.o;omega) (by omega) ai)
    have aC:=zh (s.o.trans (Puts.pre J (by omega) Puts.refl));clear au am J;go_wp2_with fail
    refine aI.o.mono ?_;rintro e a9 ⟨rfl,aT,av,ar⟩;have aG:=zh av;have aD:=zh (aC.o.trans ar);clear av ar;go_wp2;go_roundg (n-(k+1))
    case measure=>omega
    have an:k<l.length:=(by have:=D.o;omega);refine ⟨k+1,aT,_,_,by go_num,by omega,by omega,fun _=>aP,aG.o,?_,?_,aD.o⟩
    ·rw [Ph an,ad.o,ae.o,<-Bool.or_assoc,<-t.o];simp
    rw [O.o,RF an,ad.o,ae.o];simp
  obtain rfl:k=n:=by omega
  have j:=zh N;have s:=zh q;have t:=zh H;have O:=zh z;clear N q H z;go_wp2;go_end0
  have A:=D.o;have L:=P.o;have ag:l.take k=l:=by rw [A,List.take_length]
  refine ⟨rfl,d,⟨i,g,j.o,s.o,?_,fun _=>?_⟩,?_⟩
  ·by_cases e:0<k
   ·have:=ah e;omega
   omega
  ·rw [O.o,ag,A]
  rw [t.o,ag,A]
structure Ac where
 kind:Int
 n:Int
 rq:Rq
 ca:Option Addr
 cn:Nat
 cc:Nat
 cs:zd
def wl (w:World) (x:Ac):Prop:=zH w x.rq/\RunsIn w x.ca x.cn x.cc x.cs
theorem wl.later {w w':World} {x:Ac} (h:wl w x) (a:Below w.heap.size w w'):wl w' x:=⟨zH.later h.1 a,h.2.later a⟩
def wG (x:Ac):List Int:=[x.kind,x.n,x.rq.queue,x.rq.fr,x.rq.un,x.rq.kind]++((x.rq.ps.length:Int)::wL x.rq.ps)++((x.cs.length:Int)::wL x.cs)
def Sc (x:Ac):Int:=if (wG x).any wu=true then 3 else if 3<x.rq.ps.length\/48<x.cs.length then 2 else 0
def Ud (x:Ac):ByteArray:=if Sc x=0 then strOfNums (wG x) else ByteArray.empty
theorem Ii (l:zd):(wL l).any wu=l.any WC:=by
 unfold wL
 induction l with
 | nil=>rfl
 | cons p l ih=>simp [WC,ih,Bool.or_assoc]
theorem Ff (x:Ac):(wG x).any wu=((((([x.kind,x.n,x.rq.queue,x.rq.fr,x.rq.un,x.rq.kind].any wu||wu x.rq.ps.length)||x.rq.ps.any WC)||wu x.cs.length)||x.cs.any WC)):=by
 unfold wG;generalize [x.kind,x.n,x.rq.queue,x.rq.fr,x.rq.un,x.rq.kind]=hd;simp only [List.any_append,List.any_cons,Ii,Bool.or_assoc]
theorem FO {l:List Int} (h:l.any wu=false):l.map u8=l:=by
 induction l with
 | nil=>rfl
 | cons x l ih =>
  rw [List.any_cons,Bool.or_eq_false_iff] at h;rw [List.map_cons,ih h.2];have a:=h.1;simp only [wu,Bool.or_eq_false_iff,decide_eq_false_iff_not] at a
  congr 1
  unfold u8;omega
theorem Lf {w:World} {B:Nat} {v:Value} {l:List Int} (h:Xe w B v l):(convert 72 9 v).run Tryz.prog w=.ok (.string (strOfNums l)) w:=by
 rcases h.2 with ⟨rfl,c⟩ | ⟨g,a,e,rfl,_,hg,f,_,k,j⟩
 ·obtain rfl:l=[]:=List.length_eq_zero_iff.1 c;exact run_convert_bytes_nil w 72 5 Tryz.underlying72 Tryz.underlying5 0 0 _ Tryz.underlying9
 refine run_convert_bytes_arg w 72 5 Tryz.underlying72 Tryz.underlying5 g 0 l.length a l rfl (fun i b=>?_) _ Tryz.underlying9;have d:=World.ownsRow.cellAt (show w.ownsRow B 5 1 (.slice (zO g 0) l.length a) l.length (l.map (Value.int .u8)) from h) i (by omega);rw [Nat.zero_add,d,List.getElem?_map,List.getElem?_eq_getElem b];simp [List.getD,b]
theorem Wr.far {w w':World} {S c:Nat} {f:Value} {bs:List Int} {p:Bool} (o:Wr w' S c f bs p) (i:w.heap.size=S) (q:S<=c) {a:Option Addr} {m k:Nat} {l:zd} (n:RunsIn w a m k l) (j:0<m):∀ b d,a=zO b d->b≠c/\f.ownBlock≠some b:=fun b d e=>by
 have h:=n.lt j e;rw [i] at h;exact ⟨by omega,fun g=>by have:=(o.row.lt b g).1;omega⟩
theorem Vy (w:World) (x:Ac) (h:wl w x) :
 zC 9 #[.agg #[zI x.kind,zI x.n,zI x.rq.queue,zI x.rq.fr,zI x.rq.un,zI x.rq.kind,.slice x.rq.pa x.rq.pn x.rq.pc,.slice x.ca x.cn x.cc]] w fun e w'=>e=.returned (.tuple #[.string (Ud x),zI (Sc x)])/\Below w.heap.size w w':=by
 obtain ⟨kd,g,⟨q,f,u,j,r,a,s,G⟩,l,c,m,cs⟩:=x;have aQ:RunsIn w r a s G:=h.1;have aK:RunsIn w l c m cs:=h.2;obtain ⟨X,V⟩:∃ X:Ac,X=⟨kd,g,⟨q,f,u,j,r,a,s,G⟩,l,c,m,cs⟩:=⟨_,rfl⟩;rw [show Ud ⟨kd,g,⟨q,f,u,j,r,a,s,G⟩,l,c,m,cs⟩=Ud X by rw [V],show Sc ⟨kd,g,⟨q,f,u,j,r,a,s,G⟩,l,c,m,cs⟩=Sc X by rw [V]];obtain ⟨S,L⟩:=qA (w.heap.size);obtain ⟨d,F⟩:=qB ((w.alloc (.cells #[zI kd,zI g,zI q,zI f,zI u,zI j,.slice r a s,.slice l c m] 27)).alloc (.cells #[zN,.bool false] 74));have aD:Below w.heap.size w d:=by rw [F];exact (zr _ _).alloc (by simp) _
 have al:d.heap.size=S+2:=by rw [F];simp [L]
 have am:d.heap[S]?=some (.cells #[zI kd,zI g,zI q,zI f,zI u,zI j,.slice r a s,.slice l c m] 27 (0,0)):=by rw [F,<-L];exact (Below.heap_alloc _ _ _ (by simp)).trans (heap_alloc_new w _)
 have aY:d.heap[S+1]?=some (.cells #[zN,.bool false] 74 (0,0)):=by
  have:=heap_alloc_new (w.alloc (.cells #[zI kd,zI g,zI q,zI f,zI u,zI j,.slice r a s,.slice l c m] 27)) (.cells #[zN,.bool false] 74);rw [World.size_alloc,L] at this;rw [F];exact this
 obtain ⟨v,E⟩:=qB (d.alloc (.cells #[zI kd,zI g,zI q,zI f,zI u,zI j] 3));have W:Below d.heap.size d v:=by rw [E];exact zr _ _
 have aT:v.heap.size=S+3:=by rw [E];simp [al]
 have J:v.heap[S+2]?=some (.cells #[zI kd,zI g,zI q,zI f,zI u,zI j] 3 (0,0)):=by rw [E,<-al];exact heap_alloc_new d _
 have aL:IntsIn v (zO (S+2) 0) 6 6 [kd,g,q,f,u,j]:=by
  refine ⟨rfl,Nat.le_refl _,by omega,fun _=>⟨S+2,0,rfl,fun i bl=>?_⟩⟩;rw [Nat.zero_add,cell_of_row v (S+2) i _ _ _ J]
  match i,bl with
  | 0,_=>rfl
  | 1,_=>rfl
  | 2,_=>rfl
  | 3,_=>rfl
  | 4,_=>rfl
  | 5,_=>rfl
 have aX:v.heap[S]?=some (.cells #[zI kd,zI g,zI q,zI f,zI u,zI j,.slice r a s,.slice l c m] 27 (0,0)):=(W.block S (by omega)).trans am;have aS:Wr v S (S+1) zN [] false:=⟨(W.block (S+1) (by omega)).trans aY,World.ownsRow_nil _ _ _ _,fun e=>by simp [Value.ownBlock] at e⟩;have bb:=zh (UQ v S (S+1) _ [] false aS _ 6 6 [kd,g,q,f,u,j] aL (fun b bt e=>by
  injection e with e;injection e with e;exact ⟨by omega,fun t=>by simp [Value.ownBlock] at t⟩) (by simp) (by omega) (by omega))
 have aH:Below S w v:=by have:=za aD W;rw [L] at this;exact this
 have C:∀ k,d.cell? (zA S k)=#[Value.int .i64 kd,zI g,zI q,zI f,zI u,zI j,.slice r a s,.slice l c m][k]?:=fun k=>cell_of_row d S k _ _ _ am;have ar:d.cell? (zA S 0)=some (zI kd):=C 0;have au:d.cell? (zA S 1)=some (zI g):=C 1;have av:d.cell? (zA S 2)=some (zI q):=C 2;have aw:d.cell? (zA S 3)=some (zI f):=C 3;have ax:d.cell? (zA S 4)=some (zI u):=C 4;have ay:d.cell? (zA S 5)=some (zI j):=C 5;have ad:=zh V;have a2:=zh aH;have a7:=zh aX;have aq:=zh E;have ab:=zh aQ;have aa:=zh aK;have z:=zh L;have ba:=zh aT;rw [F] at ar au av aw ax ay E
 replace aq:=zh E
 clear aD al am aY W aT J aL aX aS aH C h aQ aK V E F;go_enter Tryz.func9,Tryz.ntmps9;go_wp2_with fail
 rw [<-aq.o];refine bb.o.mono ?_;rintro e H ⟨rfl,aU,ai,N⟩;have ae:Below S w H:=a2.o.trans N.below;have aI:Below w.heap.size w H:=by rw [z.o];exact ae
 have bq:=N.below.size;have bu:=ba.o;have an:H.heap[S]?=some (.cells #[zI kd,zI g,zI q,zI f,zI u,zI j,.slice r a s,.slice l c m] 27 (0,0)):=(N.blk S (by omega) (by omega) (fun e=>by simp [Value.ownBlock] at e)).trans a7.o;have az:H.cell? (zA S 6)=some (.slice r a s):=by rw [cell_of_row H S 6 _ _ _ an];rfl
 have aM:([]++[kd,g,q,f,u,j].map u8).length<=5000:=by simp
 have bc:=zh (Ob H S (S+1) aU _ _ ai r a s G (ab.o.later aI) (ai.far z.o (by omega) ab.o) aM (by omega) (by omega));have aZ:=zh ae;have a8:=zh an;have P:aU.ownBlock≠some S:=fun e=>by
  rcases N.own S e with D | D
  ·simp [Value.ownBlock] at D
  omega
 have ap:=zh P;clear ai N ae aI an aM P ar au av aw ax ay;go_wp2_with fail
 refine bc.o.mono ?_;rintro e I ⟨rfl,aW,⟨aV,bf,aj,O,aN,aE⟩,aR⟩;have af:Below S w I:=aZ.o.trans O.below;have aJ:Below w.heap.size w I:=by rw [z.o];exact af
 have br:=O.below.size;have ao:I.heap[S]?=some (.cells #[zI kd,zI g,zI q,zI f,zI u,zI j,.slice r a s,.slice l c m] 27 (0,0)):=(O.blk S (by omega) (by omega) ap.o).trans a8.o;have be:I.cell? (zA S 7)=some (.slice l c m):=by rw [cell_of_row I S 7 _ _ _ ao];rfl
 have bd:=zh (Li I S (S+1) aV bf aW aj l c m cs (aa.o.later aJ) (aj.far z.o (by omega) aa.o) (by simp at aN;omega) (by omega) (by omega));have a0:=zh af;have a9:=zh ao;have P:aV.ownBlock≠some S:=fun e=>by
  rcases O.own S e with D | D
  ·exact ap.o D
  omega
 have a5:=zh P;have a1:=zh aE;have a6:=zh aR;clear aj O af aJ ao aN P aE aR az;go_wp2_with fail
 refine bd.o.mono ?_;rintro e y ⟨rfl,Q,⟨bn,aA,Z,Y,bm,aF⟩,ak⟩;have R:=zh (a0.o.trans Y.below);have bs:=Y.below.size;have J:y.heap[S]?=some (.cells #[zI kd,zI g,zI q,zI f,zI u,zI j,.slice r a s,.slice l c m] 27 (0,0)):=(Y.blk S (by omega) (by omega) a5.o).trans a9.o;have az:y.cell? (zA S 6)=some (.slice r a s):=by rw [cell_of_row y S 6 _ _ _ J];rfl
 have bo:y.cell? (zA S 7)=some (.slice l c m):=by rw [cell_of_row y S 7 _ _ _ J];rfl
 have bp:y.cell? (zA (S+1) 0)=some bn:=by rw [cell_of_row y (S+1) 0 _ _ _ Z.box];rfl
 have b1:y.cell? (zA (S+1) 1)=some (.bool Q):=by rw [cell_of_row y (S+1) 1 _ _ _ Z.box];rfl
 have ah:=Lf Z.row;have ag:(wG X).any wu=Q:=by
  rw [ad.o,Ff,ak,a6.o];simp
 have aP:G.length=a:=ab.o.len.symm;have aO:cs.length=c:=aa.o.len.symm;have aC:Sc X=if Q=true then 3 else if 3<a\/48<c then 2 else 0:=by
  unfold Sc;rw [ag,ad.o];simp only [aP,aO]
 have aG:Q=false->aA=wG X:=fun M=>by
  have D:=aF M;have bg:aW=false:=by
   rw [ak] at M;simp only [Bool.or_eq_false_iff] at M;exact M.1.1
  rw [D,a1.o bg,<-FO (ag.trans M),ad.o];simp [wG]
 have U:=zh aC;have a3:=zh aG;have a4:=zh ah;clear Z Y bm aF ak J ah ag aP aO aC aG be;cases Q with
 | true =>
  have p:Sc X=3:=by rw [U.o,if_pos rfl]
  have t:Ud X=ByteArray.empty:=by unfold Ud;rw [p,if_neg (by decide)]
  have A:=zh p;have B:=zh t;clear p t;go_wp2;go_ret2
  rw [A.o,B.o];exact ⟨rfl,by rw [z.o];exact R.o⟩
 | false =>
  by_cases bh:3<a
  ·have aB:(3:Int)<a:=(by omega);have p:Sc X=2:=(by rw [U.o,if_neg (by decide),if_pos (Or.inl bh)]);have t:Ud X=ByteArray.empty:=(by unfold Ud;rw [p,if_neg (by decide)]);have A:=zh p;have B:=zh t;clear p t;go_wp2;go_ret2
   rw [A.o,B.o];exact ⟨rfl,by rw [z.o];exact R.o⟩
  by_cases bi:48<c
  ·have aB:¬(3:Int)<a:=(by omega);have bj:(48:Int)<c:=(by omega);have p:Sc X=2:=(by rw [U.o,if_neg (by decide),if_pos (Or.inr bi)]);have t:Ud X=ByteArray.empty:=(by unfold Ud;rw [p,if_neg (by decide)]);have A:=zh p;have B:=zh t;clear p t;go_wp2;go_ret2
   rw [A.o,B.o];exact ⟨rfl,by rw [z.o];exact R.o⟩
  have aB:¬(3:Int)<a:=by omega
  have bj:¬(48:Int)<c:=by omega
  have p:Sc X=0:=by rw [U.o,if_neg (by decide),if_neg (by omega)]
  have t:Ud X=strOfNums aA:=by unfold Ud;rw [p,if_pos rfl,a3.o rfl]
  have A:=zh p;have B:=zh t;have ah:=a4.o;clear p t;go_wp2;go_ret2
  rw [A.o,B.o];exact ⟨rfl,by rw [z.o];exact R.o⟩
end Go.Proofs.YtckpdfkobdgjeaaGreatDoor
