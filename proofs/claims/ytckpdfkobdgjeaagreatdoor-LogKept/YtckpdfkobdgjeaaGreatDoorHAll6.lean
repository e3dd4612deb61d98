/- Several texts in one: LogA, LogB, LogC. -/
import Derived.Lib.AppendZeros
import Derived.Test.YtckpdfkobdgjeaaGreatDoorHOwnC
namespace Go.Proofs.YtckpdfkobdgjeaaGreatDoor
set_option maxRecDepth 100000
set_option maxHeartbeats 4000000
open Go.RowKit
def Xe (w:World) (B:Nat) (v:Value) (l:List Int):Prop:=w.ownsRow B 5 1 v l.length (l.map (Value.int .u8))
structure Wr (w:World) (B G:Nat) (v:Value) (bs:List Int) (wide:Bool):Prop where
 box:w.heap[G]?=some (.cells #[v,.bool wide] 74 (0,0))
 row:Xe w B v bs
 apart:v.ownBlock≠some G
def wu (x:Int):Bool:=decide (x<0)||decide (255<x)
def u8 (x:Int):Int:=x % 256
theorem Ko (w:World) (B:Nat) (v:Value) (l:List Int) (h:Xe w B v l) (y:Int) (a:Nat) (s:w.heap[a]?=some (.cells #[.int .u8 y] 5 (0,0))) (A:l.length<=100000) (r:B<=w.heap.size) :
 ∃ g k w',(∀ c,(Builtin.append_ #[72,72] c #[v,.slice (zO a 0) 1 1]).run Tryz.prog w=.ok (.slice (zO g 0) (l.length+1) k) w')/\Xe w' B (.slice (zO g 0) (l.length+1) k) (l++[y])/\w.grownBy w' v.ownBlock/\(v.ownBlock=some g\/g=w.heap.size):=by
 obtain ⟨u,t,e⟩:=Option.map_eq_some_iff.1 (show (Tryz.prog.info? 5).map (fun i=>(i.zero,i.size,i.bytes))=some (some (.int .u8 0),1,1) from by kernel_rfl);simp only [Prod.mk.injEq] at e;obtain ⟨d,f,m⟩:=e;obtain ⟨g,k,w',n,o,p,q,z⟩:=run_append_lies w 72 0 B 5 u _ 1 1 Tryz.underlying72 t d f m (by rfl) (by omega) v l.length _ h (zA a 0) 1 1 [.int .u8 y] (by simp)
  (fun j x b=>by rw [Addr.add_lit,Nat.zero_add,cell_of_row w a j _ _ _ s];simpa using b) (fun x b=>by simp only [List.mem_singleton] at b;subst b;rfl) (by omega) (by simp only [maxLen];omega) (by omega) r w.heap.size rfl
 refine ⟨g,k,w',fun c=>n,?_,p,q⟩;unfold Xe;rw [List.length_append,List.map_append];exact o
theorem Wr.later {w w':World} {B a:Nat} {v:Value} {bs:List Int} {c:Bool} (h:Wr w B a v bs c) (b:Below w.heap.size w w'):Wr w' B a v bs c :=
 ⟨(b.block a (Array.getElem?_eq_some_iff.1 h.box).1).trans h.box,zT h.row b,h.apart⟩
structure Puts (w w':World) (B G:Nat) (v v':Value):Prop where
 below:Below B w w'
 blk:∀ k,k<w.heap.size->k≠G->v.ownBlock≠some k->w'.heap[k]?=w.heap[k]?
 own:∀ k,v'.ownBlock=some k->v.ownBlock=some k\/w.heap.size<=k
theorem Puts.refl {w:World} {B a:Nat} {v:Value}:Puts w w B a v v:=⟨Below.refl _ _,fun _ _ _ _=>rfl,fun _ h=>Or.inl h⟩
theorem Puts.trans {w l m:World} {B b:Nat} {v i j:Value} (h:Puts w l B b v i) (c:Puts l m B b i j):Puts w m B b v j:=by
 have n:=h.below.size;refine ⟨h.below.trans c.below,fun k d f g=>?_,fun k d=>?_⟩
 ·rw [c.blk k (by omega) f (fun e=>by rcases h.own k e with a | a;exact g a;omega),h.blk k d f g]
 rcases c.own k d with a | a
 ·exact h.own k a
 exact Or.inr (by omega)
theorem Puts.pre {w f g:World} {B c:Nat} {v e:Value} (h:Below w.heap.size w f) (i:B<=w.heap.size) (a:Puts f g B c v e):Puts w g B c v e:=by
 have l:=h.size;refine ⟨(h.mono i).trans a.below,fun k b j hn=>(a.blk k (by omega) j hn).trans (h.block k b),fun k b=>?_⟩;rcases a.own k b with d | d
 ·exact Or.inl d
 exact Or.inr (by omega)
theorem UR (wr:World) (B a:Nat) (d:Value) (l:List Int) (H:Bool) (h:Wr wr B a d l H) (j:Bool) (y:Int) (S:B<=wr.heap.size) (A:B<=a) (N:l.length<=100000) :
 ∃ g i b,(∀ R,(Builtin.append_ #[72,72] R #[d,.slice (zO wr.heap.size 0) 1 1]).run Tryz.prog ((wr.setCell (zA a 1) (.bool j)).alloc (.cells #[.int .u8 y] 5))=.ok (.slice (zO g 0) (l.length+1) i) b)/\b.cell? (zA a 0)=some d/\b.frozen? (zA a 0)=false /\
  Wr (b.setCell (zA a 0) (.slice (zO g 0) (l.length+1) i)) B a (.slice (zO g 0) (l.length+1) i) (l++[y]) j/\Puts wr (b.setCell (zA a 0) (.slice (zO g 0) (l.length+1) i)) B a d (.slice (zO g 0) (l.length+1) i):=by
 obtain ⟨c,n⟩:=qB (wr.setCell ⟨a,1,none⟩ (.bool j));obtain ⟨f,q⟩:=qB (c.alloc (.cells #[.int .u8 y] 5));have U:a<wr.heap.size:=(Array.getElem?_eq_some_iff.1 h.box).1;have F:c.heap.size=wr.heap.size:=by rw [n];simp [World.setCell]
 have ba:c.heap[a]?=some (.cells #[d,.bool j] 74 (0,0)):=by rw [n];exact heap_setCell_same wr a 1 _ _ _ h.box
 have G:∀ k,k≠a->c.heap[k]?=wr.heap[k]?:=fun k s=>by rw [n];exact heap_setCell_other wr (zA a 1) k _ s
 have r:zL c f:=by rw [q];exact zr _ _
 have E:Xe f B d l:=by
  have v:Xe c B d l:=by
   refine ⟨h.row.1,?_⟩;rcases h.row.2 with O | ⟨g,cap,u,rfl,w,hg,rest⟩
   ·exact .inl O
   exact .inr ⟨g,cap,u,rfl,w,(G g (fun e=>h.apart (by rw [e];rfl))).trans hg,rest⟩
  exact zT v r
 have J:f.heap[wr.heap.size]?=some (.cells #[.int .u8 y] 5 (0,0)):=by rw [q,<-F];exact heap_alloc_new c _
 have W:f.heap.size=wr.heap.size+1:=by rw [q];simp [F]
 obtain ⟨g,i,b,v,I,o,z⟩:=Ko f B d l E y wr.heap.size J N (by omega);have C:g≠a:=fun e=>by
  rcases z with m | m
  ·exact h.apart (by rw [<-e];exact m)
  omega
 have t:b.heap[a]?=some (.cells #[d,.bool j] 74 (0,0)):=by
  rw [o.block a (by omega) (fun e=>h.apart e.symm),r.block a (by omega)];exact ba
 have V:=o.size;have L:Below B wr b:=by
  have P:Below B wr c:=by rw [n];exact (Below.refl B wr).setCell (p:=(zA a 1)) A _
  have Q:Below B wr f:=P.trans (r.mono (by omega));exact Q.grown o (by omega) (fun k e=>(E.lt k e).1)
 refine ⟨g,i,b,by rw [<-n,<-q];exact v,by rw [cell_of_row b a 0 _ _ _ t];rfl,frozen_of_row b a 0 _ _ t,⟨?_,?_,fun e=>C (xP.1 e)⟩,⟨L.setCell (p:=(zA a 0)) A _,fun k s D M=>?_,fun k s=>?_⟩⟩
 ·rw [heap_setCell_same b a 0 _ _ _ t];rfl
 ·refine ⟨by rw [List.length_append,List.length_map];rw [List.length_append];simp,?_⟩;rcases I.2 with ⟨e,_⟩ | ⟨x,cap,u,e,w,hg,rest⟩
  ·cases e
  refine .inr ⟨x,cap,u,e.trans (by simp),w,?_,rest⟩;injection e with e;injection e with e;injection e with e;rw [heap_setCell_other b (zA a 0) x _ (by rw [<-e];exact C)];exact hg
 ·rw [heap_setCell_other b (zA a 0) k _ D,o.block k (by omega) (fun e=>M e.symm),r.block k (by omega),G k D]
 ·have e:=xP.1 s;subst e;rcases z with m | m
  ·exact Or.inl m
  exact Or.inr (by omega)
theorem Su {bs a l:List Int} {n k:Nat} {x:Int} (hn:n=a.length) (d:k<n) (c:a.getD k 0=x) (b:bs++(a.take k).map u8=l):bs++(a.take (k+1)).map u8=l++[x % 256]:=by
 have e:a[k]'(by omega)=x:=by rw [<-c];simp [List.getD,show k<a.length by omega]
 rw [List.take_succ_eq_append_getElem (by omega),List.map_append,<-List.append_assoc,b,e];rfl
theorem UX {a:List Int} {n k:Nat} {x:Int} {c b:Bool} (hn:n=a.length) (g:k<n) (f:a.getD k 0=x) (d:(c||(a.take k).any wu)=b):(c||(a.take (k+1)).any wu)=(b||wu x):=by
 have e:a[k]'(by omega)=x:=by rw [<-f];simp [List.getD,show k<a.length by omega]
 rw [List.take_succ_eq_append_getElem (by omega),List.any_append,<-Bool.or_assoc,d,e];simp
theorem UQ (w:World) (B c:Nat) (v:Value) (bs:List Int) (M:Bool) (h:Wr w B c v bs M) (a:Option Addr) (n cap:Nat) (t:List Int) (F:IntsIn w a n cap t) (aa:∀ b ao,a=zO b ao->b≠c/\v.ownBlock≠some b) (hn:bs.length+n<=100000) (av:B<=w.heap.size) (L:B<=c) :
 zC 29 #[.pointer (zO c 0),.slice a n cap] w fun e w'=>e=.returned (.tuple #[])/\∃ d,Wr w' B c d (bs++t.map u8) (M||t.any wu)/\Puts w w' B c v d:=by
 have ad:=F.len;have ay:=F.le;have aw:=F.capb;have aj:=zh F;have ag:=zh aa;have q:=zh ad;have af:=zh h;clear F aa ad h;go_enter Tryz.func29,Tryz.ntmps29;go_wp2;go_loopg [8] n (fun am (p:Value) wr=>∃ (k:Nat) (d:Value),p=zI k/\k<=n/\am=n-k/\Wr wr B c d (bs++(t.take k).map u8) (M||(t.take k).any wu)/\Puts w wr B c v d)
 case atStart=>exact ⟨0,v,rfl,by omega,by omega,by simpa using af.o,Puts.refl⟩
 case round =>
  obtain ⟨k,d,rfl,ax,rfl,s,E⟩:=hrel;by_cases r:k<n
  ·have az:(k:Int)<n:=(by omega);obtain ⟨N,ae,ab,W⟩:=aj.o.cells (by omega);obtain ⟨ak,al⟩:=ag.o N ae ab;have R:=W k r;have an:N<w.heap.size:=block_lt_of_cell (W 0 (by omega));have R:wr.cell? (zA N (ae+k))=some (zI (t.getD k 0)):=(World.cell?_of_block (w:=w) (E.blk N an ak al)).trans R;obtain ⟨x,Y⟩:=qA (t.getD k 0);rw [Y] at R;obtain ⟨J,V⟩:=qA ((M||(t.take k).any wu));rw [V] at s;obtain ⟨l,X⟩:=qA (bs++(t.take k).map u8);rw [X] at s;have ap:wr.cell? (zA c 0)=some d:=(by rw [cell_of_row wr c 0 _ _ _ s.box];rfl);have b1:wr.cell? (zA c 1)=some (.bool J):=(by rw [cell_of_row wr c 1 _ _ _ s.box];rfl);have aq:∀ m,wr.frozen? (zA c m)=false:=fun m=>frozen_of_row wr c m _ _ s.box;have H:=zh s;have j:=zh E;have u:=zh Y;have I:=zh V;have C:=zh X;subst ab;clear s E W Y V X;have G:Zh (l.length<=100000):=(by show l.length<=100000;rw [<-C.o,List.length_append,List.length_map,List.length_take];omega);cases J with
   | true =>
    obtain ⟨g,Z,O,A,P,Q,i,f⟩:=UR wr B c d l true H.o true (x % 256) (by have:=j.o.below.size;omega) L (by have:=G.o;omega);have z:=zh i;have y:=zh f;clear i f;go_wp2_with (at_builtin;refine Lib.wpList_append_run _ rfl _ _ _ _ rfl _ _ rfl rfl _ _ (A _) ?_)
    go_roundg (n-(k+1))
    case measure=>omega
    refine ⟨k+1,_,by go_num,by omega,by omega,?_,j.o.trans y.o⟩;rw [Su q.o r u.o C.o,UX q.o r u.o I.o,Bool.true_or];exact z.o
   | false =>
    by_cases S:x<0
    ·have D:wu x=true:=(by simp [wu,S]);obtain ⟨g,Z,O,A,P,Q,i,f⟩:=UR wr B c d l false H.o true (x % 256) (by have:=j.o.below.size;omega) L (by have:=G.o;omega);have z:=zh i;have y:=zh f;clear i f;go_wp2_with (at_builtin;refine Lib.wpList_append_run _ rfl _ _ _ _ rfl _ _ rfl rfl _ _ (A _) ?_)
     go_roundg (n-(k+1))
     case measure=>omega
     refine ⟨k+1,_,by go_num,by omega,by omega,?_,j.o.trans y.o⟩;rw [Su q.o r u.o C.o,UX q.o r u.o I.o,D,Bool.false_or];exact z.o
    by_cases U:255<x
    ·have D:wu x=true:=(by simp [wu,U]);obtain ⟨g,Z,O,A,P,Q,i,f⟩:=UR wr B c d l false H.o true (x % 256) (by have:=j.o.below.size;omega) L (by have:=G.o;omega);have z:=zh i;have y:=zh f;clear i f;go_wp2_with (at_builtin;refine Lib.wpList_append_run _ rfl _ _ _ _ rfl _ _ rfl rfl _ _ (A _) ?_)
     go_roundg (n-(k+1))
     case measure=>omega
     refine ⟨k+1,_,by go_num,by omega,by omega,?_,j.o.trans y.o⟩;rw [Su q.o r u.o C.o,UX q.o r u.o I.o,D,Bool.false_or];exact z.o
    have D:wu x=false:=(by simp only [wu,Bool.or_eq_false_iff,decide_eq_false_iff_not];exact ⟨S,U⟩);have ar:decide (x<0)=false:=decide_eq_false S;have au:decide (255<x)=false:=decide_eq_false U;have aA:0<=x/\x<=255:=(by omega);obtain ⟨g,Z,O,A,P,Q,i,f⟩:=UR wr B c d l false H.o false x (by have:=j.o.below.size;omega) L (by have:=G.o;omega);have z:=zh i;have y:=zh f;clear i f;go_wp2_with (at_builtin;refine Lib.wpList_append_run _ rfl _ _ _ _ rfl _ _ rfl rfl _ _ (A _) ?_)
    go_roundg (n-(k+1))
    case measure=>omega
    refine ⟨k+1,_,by go_num,by omega,by omega,?_,j.o.trans y.o⟩;rw [Su q.o r u.o C.o,UX q.o r u.o I.o,D,Bool.false_or,show x % 256=x by omega];exact z.o
  obtain rfl:k=n:=by omega
  have ai:=zh s;have j:=zh E;clear s E;go_wp2;have hfin:=ai.o;rw [q.o,List.take_length] at hfin;have ah:=zh hfin;clear hfin;go_end0
  exact ⟨rfl,d,ah.o,j.o⟩
theorem N3 (w:World) (a b:Int):IntsIn (w.alloc (.cells #[zI a,zI b] 3)) (zO w.heap.size 0) 2 2 [a,b]:=by
 have h:=heap_alloc_new w (.cells #[zI a,zI b] 3);refine ⟨rfl,Nat.le_refl _,by omega,fun _=>⟨w.heap.size,0,rfl,fun i c=>?_⟩⟩;rw [Nat.zero_add,cell_of_row _ _ i _ _ _ h]
 match i,c with
 | 0,_=>rfl
 | 1,_=>rfl
theorem NE (w:World) (a:Int):IntsIn (w.alloc (.cells #[zI a] 3)) (zO w.heap.size 0) 1 1 [a]:=by
 have h:=heap_alloc_new w (.cells #[zI a] 3);refine ⟨rfl,Nat.le_refl _,by omega,fun _=>⟨w.heap.size,0,rfl,fun i b=>?_⟩⟩;rw [Nat.zero_add,cell_of_row _ _ i _ _ _ h]
 match i,b with
 | 0,_=>rfl
theorem QC (w:World) (a b:Int) :
 zC 72 #[.iface 64 (.agg #[zI a,zI b])] w fun e w'=>∃ g,e=.returned (.slice (zO g 0) 2 2)/\w.heap.size<=g/\IntsIn w' (zO g 0) 2 2 [a,b]/\Below w.heap.size w w':=by
 have f:∀ (c:World) (v:Value),(Instr.typeAssert (.iface 64 v) 20 64 true).run Tryz.prog c=.ok (.tuple #[v,.bool true]) c:=fun c v=>by kernel_rfl
 obtain ⟨S,d⟩:=qA (w.heap.size);go_enter Tryz.func72,Tryz.ntmps72;go_wp2;go_ret;refine ⟨_,rfl,?_,?_,?_⟩
 ·omega
 ·have:=N3 (w.alloc (.cells #[zI a,zI b] 64)) a b;rw [World.size_alloc,d] at this;exact this
 ·exact (zr _ _).alloc (by simp) _
theorem NC (w:World) (a b:Int) :
 zC 72 #[.iface 55 (.agg #[zI a,zI b])] w fun e w'=>∃ g,e=.returned (.slice (zO g 0) 2 2)/\w.heap.size<=g/\IntsIn w' (zO g 0) 2 2 [a,b]/\Below w.heap.size w w':=by
 have f:∀ (c:World) (v:Value),(Instr.typeAssert (.iface 55 v) 20 55 true).run Tryz.prog c=.ok (.tuple #[v,.bool true]) c:=fun c v=>by kernel_rfl
 have hn:∀ (c:World) (v:Value),(Instr.typeAssert (.iface 55 v) 20 64 true).run Tryz.prog c=.ok (.tuple #[.agg #[zI 0,zI 0],.bool false]) c:=fun c v=>by kernel_rfl
 obtain ⟨S,d⟩:=qA (w.heap.size);go_enter Tryz.func72,Tryz.ntmps72;go_wp2;go_ret;refine ⟨_,rfl,?_,?_,?_⟩
 ·omega
 ·have:=N3 (w.alloc (.cells #[zI a,zI b] 55)) a b;rw [World.size_alloc,d] at this;exact this
 ·exact (zr _ _).alloc (by simp) _
def WC (p:Int×Int):Bool:=wu p.1||wu p.2
def wL (l:zd):List Int:=l.flatMap fun p=>[p.1,p.2]
theorem ZQ (l:zd):(wL l).length=2*l.length:=by
 unfold wL
 induction l with
 | nil=>rfl
 | cons p l ih=>simp [List.flatMap_cons] at ih ⊢;omega
theorem Px {l:zd} {k:Nat} (a:k<l.length):l.take (k+1)=l.take k++[(zp l k,rN l k)]:=by
 rw [List.take_succ_eq_append_getElem a]
 congr 2
 simp [zp,rN,List.getD,a]
theorem RF {l:zd} {k:Nat} (a:k<l.length):wL (l.take (k+1))=wL (l.take k)++[zp l k,rN l k]:=by
 rw [Px a];simp [wL]
theorem Ph {l:zd} {k:Nat} (a:k<l.length):(l.take (k+1)).any WC=((l.take k).any WC||(wu (zp l k)||wu (rN l k))):=by
 rw [Px a];simp [WC]
structure ListPut (w w':World) (B G:Nat) (v:Value) (bs:List Int) (wide:Bool) (l:zd) (W:Bool):Prop where
 put:∃ v' bs',Wr w' B G v' bs' W/\Puts w w' B G v v'/\bs'.length<=bs.length+600/\(W=false->bs'=bs++(((l.length:Int)::wL l).map u8))
 wide:W=(wide||wu l.length||l.any WC)
theorem Ob (w:World) (B c:Nat) (v:Value) (bs:List Int) (r:Bool) (h:Wr w B c v bs r) (a:Option Addr) (n cap:Nat) (l:zd) (m:RunsIn w a n cap l) (aj:0<n->∀ b Z,a=zO b Z->b≠c/\v.ownBlock≠some b) (hn:bs.length<=5000) (aN:B<=w.heap.size) (ah:B<=c) :
 zC 30 #[.pointer (zO c 0),.slice a n cap] w fun e w'=>e=.returned (.tuple #[])/\∃ d,ListPut w w' B c v bs r l d:=by
 have a4:=m.le;have aY:=m.bound;have a0:=m.capb;have aX:c<w.heap.size:=(Array.getElem?_eq_some_iff.1 h.box).1;obtain ⟨u,F⟩:=qB (w.alloc (.cells #[zI n] 3));have I:zL w u:=by rw [F];exact zr _ _
 have ak:IntsIn u (zO w.heap.size 0) 1 1 [(n:Int)]:=by rw [F];exact NE w n
 have aP:=I.size;have aG:=zh (UQ u B c v bs r (h.later I) _ 1 1 [(n:Int)] ak (fun b Z e=>by
  injection e with e;injection e with e;subst e;exact ⟨by omega,fun Q=>by have:=(h.row.lt _ Q).2;omega⟩) (by omega) (by omega) ah)
 have az:=zh m;have ay:=zh aj;have D:=zh m.len;have ax:=zh I;have aE:=zh F;have aU:=zh h.row;clear m aj h I ak F;go_enter Tryz.func30,Tryz.ntmps30;go_wp2_with fail
 rw [<-aE.o];refine aG.o.mono ?_;rintro e a7 ⟨rfl,aR,V,ao⟩;have aA:=zh (Puts.pre ax.o aN ao);have ai:bs++[(n:Int)].map u8=bs++((n:Int)::wL (l.take 0)).map u8:=by simp [wL]
 have av:(r||[(n:Int)].any wu)=(r||wu n||(l.take 0).any WC):=by simp
 rw [ai,av] at V;have aD:=zh V;clear V ao ai av aP;go_wp2_with fail
 go_loopg [13] n (fun aM (p:Value) wr=>∃ (k:Nat) (i:Value) (g:List Int) (d:Bool),p=zI k/\k<=n/\aM=n-k/\(0<k->n<=255)/\Wr wr B c i g d/\d=(r||wu n||(l.take k).any WC)/\g=bs++((n:Int)::wL (l.take k)).map u8/\Puts w wr B c v i)
 case atStart=>exact ⟨0,aR,_,_,rfl,by omega,by omega,fun h=>by omega,aD.o,rfl,rfl,aA.o⟩
 case round =>
  obtain ⟨k,i,g,d,rfl,a3,rfl,ag,N,H,z,q⟩:=hrel;have A:=D.o;have L:g.length=bs.length+1+2*k:=by
   rw [z,List.length_append,List.length_map,List.length_cons,ZQ,List.length_take];omega
  have P:=zh L;clear A L;by_cases an:k<n
  ·have a5:(k:Int)<n:=(by omega);obtain ⟨C,aa,aw,M⟩:=az.o.cells (by omega);obtain ⟨aK,aL⟩:=ay.o (by omega) C aa aw;have aQ:C<w.heap.size:=block_lt_of_cell (M 0 (by omega)).1;have U:=q.blk C aQ aK aL;have aJ:wr.cell? (zA C (aa+k*2))=some (zI (zp l k)):=(World.cell?_of_block (w:=w) U).trans (M k an).1;have c1:wr.cell? (zA C (aa+k*2+1))=some (zI (rN l k)):=(World.cell?_of_block (w:=w) U).trans (M k an).2;obtain ⟨x,X⟩:=qA (zp l k);obtain ⟨y,Y⟩:=qA (rN l k);rw [X] at aJ;rw [Y] at c1;obtain ⟨f,G⟩:=qB (wr.alloc (.cells #[zI x,zI y] 64));have S:zL wr f:=(by rw [G];exact zr _ _);have W:=N.later S;have b1:f.cell? (zA c 1)=some (.bool d):=(by rw [cell_of_row f c 1 _ _ _ W.box];rfl);have aZ:=q.below.size;have ap:Puts w f B c v i:=q.trans (Puts.pre S (by omega) Puts.refl);have ad:=zh X;have ae:=zh Y;have ab:=zh G;have j:=zh W;have s:=zh ap;have t:=zh H;have O:=zh z;rw [G] at b1;subst aw;clear N q M X Y G S W ap H z U;cases d with
   | true =>
    go_wp2;rw [<-ab.o];refine bodyPost_ret (results_none rfl _ _ _) rfl ?_;have L:=P.o;refine ⟨rfl,true,⟨i,g,j.o,s.o,?_,nofun⟩,?_⟩
    ·by_cases e:0<k
     ·have:=ag e;omega
     omega
    have E:=t.o;rw [<-D.o];have R:l.any WC=((l.take k).any WC||(l.drop k).any WC):=(by rw [<-List.any_append,List.take_append_drop]);rw [R,<-Bool.or_assoc,<-E];rfl
   | false =>
    have aO:n<=255:=by
     have E:=t.o.symm;simp only [Bool.or_eq_false_iff] at E;have R:=E.1.2;simp only [wu,Bool.or_eq_false_iff,decide_eq_false_iff_not] at R;omega
    have aI:=zh (QC f x y);go_wp2_with fail
    rw [<-ab.o];refine aI.o.mono ?_;rintro e aT ⟨aV,rfl,a1,al,J⟩;have ar:=j.o.later J;have a2:=J.size;have aW:c<f.heap.size:=(Array.getElem?_eq_some_iff.1 j.o.box).1;have a6:=s.o.below.size;have aH:=zh (UQ aT B c i g false ar _ 2 2 [x,y] al (fun b Z e=>by
     injection e with e;injection e with e;subst e;exact ⟨by omega,fun Q=>by have:=(j.o.row.lt _ Q).2;omega⟩) (by have:=P.o;omega) (by omega) ah)
    have aB:=zh (s.o.trans (Puts.pre J (by omega) Puts.refl));clear ar al J;go_wp2_with fail
    refine aH.o.mono ?_;rintro e a8 ⟨rfl,aS,au,aq⟩;have aF:=zh au;have aC:=zh (aB.o.trans aq);clear au aq;go_wp2;go_roundg (n-(k+1))
    case measure=>omega
    have am:k<l.length:=(by have:=D.o;omega);refine ⟨k+1,aS,_,_,by go_num,by omega,by omega,fun _=>aO,aF.o,?_,?_,aC.o⟩
    ·rw [Ph am,ad.o,ae.o,<-Bool.or_assoc,<-t.o];simp
    rw [O.o,RF am,ad.o,ae.o];simp
  obtain rfl:k=n:=by omega
  have j:=zh N;have s:=zh q;have t:=zh H;have O:=zh z;clear N q H z;go_wp2;go_end0
  have A:=D.o;have L:=P.o;have af:l.take k=l:=by rw [A,List.take_length]
  refine ⟨rfl,d,⟨i,g,j.o,s.o,?_,fun _=>?_⟩,?_⟩
  ·by_cases e:0<k
   ·have:=ag e;omega
   omega
  ·rw [O.o,af,A]
  rw [t.o,af,A]
theorem Li (w:World) (B c:Nat) (v:Value) (bs:List Int) (r:Bool) (h:Wr w B c v bs r) (a:Option Addr) (n cap:Nat) (l:zd) (m:RunsIn w a n cap l) (aj:0<n->∀ b Z,a=zO b Z->b≠c/\v.ownBlock≠some b) (hn:bs.length<=5000) (aN:B<=w.heap.size) (ah:B<=c) :
 zC 31 #[.pointer (zO c 0),.slice a n cap] w fun e w'=>e=.returned (.tuple #[])/\∃ d,ListPut w w' B c v bs r l d:=by
 have a4:=m.le;have aY:=m.bound;have a0:=m.capb;have aX:c<w.heap.size:=(Array.getElem?_eq_some_iff.1 h.box).1;obtain ⟨u,F⟩:=qB (w.alloc (.cells #[zI n] 3));have I:zL w u:=by rw [F];exact zr _ _
 have ak:IntsIn u (zO w.heap.size 0) 1 1 [(n:Int)]:=by rw [F];exact NE w n
 have aP:=I.size;have aG:=zh (UQ u B c v bs r (h.later I) _ 1 1 [(n:Int)] ak (fun b Z e=>by
  injection e with e;injection e with e;subst e;exact ⟨by omega,fun Q=>by have:=(h.row.lt _ Q).2;omega⟩) (by omega) (by omega) ah)
 have az:=zh m;have ay:=zh aj;have D:=zh m.len;have ax:=zh I;have aE:=zh F;have aU:=zh h.row;clear m aj h I ak F;go_enter Tryz.func31,Tryz.ntmps31;go_wp2_with fail
 rw [<-aE.o];refine aG.o.mono ?_;rintro e a7 ⟨rfl,aR,V,ao⟩;have aA:=zh (Puts.pre ax.o aN ao);have ai:bs++[(n:Int)].map u8=bs++((n:Int)::wL (l.take 0)).map u8:=by simp [wL]
 have av:(r||[(n:Int)].any wu)=(r||wu n||(l.take 0).any WC):=by simp
 rw [ai,av] at V;have aD:=zh V;clear V ao ai av aP;go_wp2_with fail
 go_loopg [13] n (fun aM (p:Value) wr=>∃ (k:Nat) (i:Value) (g:List Int) (d:Bool),p=zI k/\k<=n/\aM=n-k/\(0<k->n<=255)/\Wr wr B c i g d/\d=(r||wu n||(l.take k).any WC)/\g=bs++((n:Int)::wL (l.take k)).map u8/\Puts w wr B c v i)
 case atStart=>exact ⟨0,aR,_,_,rfl,by omega,by omega,fun h=>by omega,aD.o,rfl,rfl,aA.o⟩
 case round =>
  obtain ⟨k,i,g,d,rfl,a3,rfl,ag,N,H,z,q⟩:=hrel;have A:=D.o;have L:g.length=bs.length+1+2*k:=by
   rw [z,List.length_append,List.length_map,List.length_cons,ZQ,List.length_take];omega
  have P:=zh L;clear A L;by_cases an:k<n
  ·have a5:(k:Int)<n:=(by omega);obtain ⟨C,aa,aw,M⟩:=az.o.cells (by omega);obtain ⟨aK,aL⟩:=ay.o (by omega) C aa aw;have aQ:C<w.heap.size:=block_lt_of_cell (M 0 (by omega)).1;have U:=q.blk C aQ aK aL;have aJ:wr.cell? (zA C (aa+k*2))=some (zI (zp l k)):=(World.cell?_of_block (w:=w) U).trans (M k an).1;have c1:wr.cell? (zA C (aa+k*2+1))=some (zI (rN l k)):=(World.cell?_of_block (w:=w) U).trans (M k an).2;obtain ⟨x,X⟩:=qA (zp l k);obtain ⟨y,Y⟩:=qA (rN l k);rw [X] at aJ;rw [Y] at c1;obtain ⟨f,G⟩:=qB (wr.alloc (.cells #[zI x,zI y] 55));have S:zL wr f:=(by rw [G];exact zr _ _);have W:=N.later S;have b1:f.cell? (zA c 1)=some (.bool d):=(by rw [cell_of_row f c 1 _ _ _ W.box];rfl);have aZ:=q.below.size;have ap:Puts w f B c v i:=q.trans (Puts.pre S (by omega) Puts.refl);have ad:=zh X;have ae:=zh Y;have ab:=zh G;have j:=zh W;have s:=zh ap;have t:=zh H;have O:=zh z;rw [G] at b1;subst aw;clear N q M X Y G S W ap H z U;cases d with
   | true =>
    go_wp2;rw [<-ab.o];refine bodyPost_ret (results_none rfl _ _ _) rfl ?_;have L:=P.o;refine ⟨rfl,true,⟨i,g,j.o,s.o,?_,nofun⟩,?_⟩
    ·by_cases e:0<k
     ·have:=ag e;omega
     omega
    have E:=t.o;rw [<-D.o];have R:l.any WC=((l.take k).any WC||(l.drop k).any WC):=(by rw [<-List.any_append,List.take_append_drop]);rw [R,<-Bool.or_assoc,<-E];rfl
   | false =>
    have aO:n<=255:=by
     have E:=t.o.symm;simp only [Bool.or_eq_false_iff] at E;have R:=E.1.2;simp only [wu,Bool.or_eq_false_iff,decide_eq_false_iff_not] at R;omega
    have aI:=zh (NC f x y);go_wp2_with fail
    rw [<-ab.o];refine aI.o.mono ?_;rintro e aT ⟨aV,rfl,a1,al,J⟩;have ar:=j.o.later J;have a2:=J.size;have aW:c<f.heap.size:=(Array.getElem?_eq_some_iff.1 j.o.box).1;have a6:=s.o.below.size;have aH:=zh (UQ aT B c i g false ar _ 2 2 [x,y] al (fun b Z e=>by
     injection e with e;injection e with e;subst e;exact ⟨by omega,fun Q=>by have:=(j.o.row.lt _ Q).2;omega⟩) (by have:=P.o;omega) (by omega) ah)
    have aB:=zh (s.o.trans (Puts.pre J (by omega) Puts.refl));clear ar al J;go_wp2_with fail
    refine aH.o.mono ?_;rintro e a8 ⟨rfl,aS,au,aq⟩;have aF:=zh au;have aC:=zh (aB.o.trans aq);clear au aq;go_wp2;go_roundg (n-(k+1))
    case measure=>omega
    have am:k<l.length:=(by have:=D.o;omega);refine ⟨k+1,aS,_,_,by go_num,by omega,by omega,fun _=>aO,aF.o,?_,?_,aC.o⟩
    ·rw [Ph am,ad.o,ae.o,<-Bool.or_assoc,<-t.o];simp
    rw [O.o,RF am,ad.o,ae.o];simp
  obtain rfl:k=n:=by omega
  have j:=zh N;have s:=zh q;have t:=zh H;have O:=zh z;clear N q H z;go_wp2;go_end0
  have A:=D.o;have L:=P.o;have af:l.take k=l:=by rw [A,List.take_length]
  refine ⟨rfl,d,⟨i,g,j.o,s.o,?_,fun _=>?_⟩,?_⟩
  ·by_cases e:0<k
   ·have:=ag e;omega
   omega
  ·rw [O.o,af,A]
  rw [t.o,af,A]
end Go.Proofs.YtckpdfkobdgjeaaGreatDoor
