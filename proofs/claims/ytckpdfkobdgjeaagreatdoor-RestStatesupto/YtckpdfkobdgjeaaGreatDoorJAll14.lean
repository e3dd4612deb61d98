/- Several texts in one: CutW, CutX, LogE, LogF. -/
import Derived.Test.YtckpdfkobdgjeaaGreatDoorJAll13
import Derived.Test.YtckpdfkobdgjeaaGreatDoorJAll6
import Derived.WalkLawsBesides
import Derived.BigQuiet
import Derived.Lib.AppendZeros
namespace Go.Proofs.YtckpdfkobdgjeaaGreatDoor
set_option maxRecDepth 100000
set_option maxHeartbeats 4000000
open Go.RowKit
set_option linter.unusedSectionVars false
variable [Inhabited Mk]
theorem Qj (w:World) (a:Option Addr) (n c:Nat) (b:List Value) (B:b.length=n*2) (hn:n<=1048576) (m:∀ d,a=some d->∀ j u,b[j]?=some u->w.cell? (d.add j)=some u) (v:∀ u∈b,u.oneCell'=true) (l:a=none->n=0) :
 zC 94 #[.slice a n c] w fun e w'=>∃ f,e=.returned f/\w'.ownsRow w.heap.size 55 2 f n b/\Below w.heap.size w w':=by
 have E:∀ (w:World) (a:Option Addr) (n c h g:Nat),(binOp .eql 25 (.slice a n c) (.slice none h g)).run Tryz.prog w=.ok (.bool a.isNone) w:=fun w a n c h g=>Lib.run_eql_slice_nil w _ _ a n c h g Tryz.underlying25;obtain ⟨D,y,e⟩:=Option.map_eq_some_iff.1 (show (Tryz.prog.info? 55).map (fun i=>(i.zero,i.size,i.bytes))=some (some (.agg #[zI 0,zI 0]),2,16) from by kernel_rfl);simp only [Prod.mk.injEq] at e;obtain ⟨r,s,t⟩:=e;cases a with
 | none =>
  obtain rfl:=l rfl;have p:b=[]:=List.length_eq_zero_iff.1 (by omega);subst p;go_enter Tryz.func94,Tryz.ntmps94;go_wp2;go_ret;exact ⟨_,rfl,World.ownsRow_nil _ _ _ _,Below.refl _ _⟩
 | some d =>
  have q:=zh (m d rfl);clear m l;go_enter Tryz.func94,Tryz.ntmps94;go_wp2_with (at_builtin;refine wpList_append_own _ rfl _ _ 25 rfl w.heap.size 55 D _ 2 16 Tryz.underlying25 y r s t (by rfl) (by omega) _ _ _ rfl (World.ownsRow_made w #[] 0 (Nat.le_refl _) (Nat.zero_le _) (by simp)) d n c b rfl ?qc1 ?qc2 ?qc3 ?qc4 ?qc5 ?qc6 ?_)
  case qc1=>exact B
  case qc2 =>
   intro j u z;exact cell_later (zr _ _) (q.o j u z)
  case qc3=>exact v
  case qc4=>simp only [maxLen];omega
  case qc5=>omega
  case qc6=>simp
  intro f F C x p;go_wp2;go_ret;refine ⟨f,rfl,by simpa using C,?_⟩;exact ((Below.refl _ w).alloc (Nat.le_refl _) _).grown x (by simp) (by intro k A;simp [Value.ownBlock] at A;omega)
theorem QD {w:World} {B:Nat} {v:Value} {l:zd} (h:w.ownsRow B 55 2 v l.length (cellsOf l)) (x:l.length<=1048576):∃ a d,v=.slice a l.length d/\Wx w a l.length d l/\∀ b c,a=zO b c->B<=b/\c=0:=by
 rcases h.2 with ⟨rfl,hn⟩ | ⟨g,d,j,rfl,t,hg,q,r,y,s⟩
 ·refine ⟨none,0,by rw [hn],⟨⟨rfl,by omega,by omega,by omega,fun p=>by omega,fun p=>by omega⟩,fun b c e=>by cases e⟩,fun b c e=>by cases e⟩
 refine ⟨zO g 0,d,rfl,⟨⟨rfl,q,by omega,by simpa [maxLen] using r,fun p=>⟨g,0,rfl,fun i o=>?_⟩,fun _ b c e=>by cases e;exact Or.inr ⟨j,_,hg⟩⟩,fun b c e _=>by
  injection e with e;injection e with m n;subst m;exact ⟨_,_,_,hg,by decide,by decide,by decide⟩⟩,fun b c e=>by
  injection e with e;injection e with m n;exact ⟨by omega,n.symm⟩⟩
 have key:∀ k u,(cellsOf l)[k]?=some u->w.cell? (zA g k)=some u:=by
  intro k u f;rw [<-s,List.getElem?_take] at f
  split at f
  ·rw [cell_of_row w g k j _ (0,0) hg];simpa using f
  cases f
 exact ⟨by rw [Nat.zero_add];exact key _ _ (xr l i o),by rw [Nat.zero_add];exact key _ _ (xJ l i o)⟩
theorem Sy (w:World) (a:Option Addr) (n g:Nat) (l:zd) (h:RunsIn w a n g l) (hn:n<=1048576) :
 zC 94 #[.slice a n g] w fun e w'=>∃ c d,e=.returned (.slice c n d)/\Wx w' c n d l/\Below w.heap.size w w'/\∀ b f,c=zO b f->w.heap.size<=b:=by
 refine (Qj w a n g (cellsOf l) (by rw [xL,h.len]) hn ?_ (YE l) ?_).mono ?_
 ·rintro q rfl j u p;exact h.list j u p
 ·rintro rfl;by_cases e:0<n
  ·obtain ⟨b,f,e,_⟩:=h.cells e;cases e
  omega
 ·rintro e w' ⟨r,rfl,m,o⟩;obtain ⟨c,d,rfl,i,k⟩:=QD (l:=l) (h.len ▸ m) (by have:=h.len;omega);exact ⟨c,d,by rw [h.len],by rw [h.len];exact i,o,fun b f e=>(k b f e).1⟩
theorem WO {g:Nat} {w:World} {p:Addr} {v:Value} (h:w.cell? p=some v) (a:p.block≠g):(Ui g w).cell? p=some v :=
 (World.cell?_of_block (w:=w) (w':=Ui g w) (World.putObj_heap_other a)).trans h
theorem RunsIn.off {g:Nat} {w:World} {a:Option Addr} {n d:Nat} {l:zd} (h:RunsIn w a n d l) (f:0<n->∀ b c,a=zO b c->b≠g):RunsIn (Ui g w) a n d l:=h.of_away fun i b c e=>World.putObj_heap_other (f i b c e)
theorem QsIn.off {g:Nat} {w:World} {a:Option Addr} {n m:Nat} {l:QL} (h:QsIn w a n m l) (j:0<n->∀ b c,a=zO b c->b≠g) (o:∀ i,i<n->0<(qu l i).cn->∀ b c,(qu l i).ca=zO b c->b≠g):QsIn (Ui g w) a n m l:=by
 refine ⟨h.len,h.le,h.capb,fun e=>?_,fun i f=>(h.caps i f).off (o i f),h.names,fun e b c d=>(h.thaw e b c d).of_eq (World.putObj_heap_other (j e b c d))⟩;obtain ⟨b,c,d,k⟩:=h.cells e;exact ⟨b,c,d,fun i f=>⟨WO (k i f).1 (j e b c d),WO (k i f).2.1 (j e b c d),WO (k i f).2.2 (j e b c d)⟩⟩
theorem UM {l:QL} (h:Clean l []) {q:Nat} (c:q<l.length) {t:Int} (a:0<=t) (b:t<48):yw l [] t q=false:=by
 cases e:yw l [] t q with
 | false=>rfl
 | true=>have:=XX h c a b e;cases this
theorem Nv (w:World) (c n:Int) (d:Option Addr) (h g:Nat) (l:QL) (a:Option Addr) (b:Nat) (A:Clean l []) (V:0<=c) (W:c<=48) (y:zY w d h g l a 0 b []) :
 zC 95 #[.agg (zS c n d h g a 0 b)] w fun e w'=>e=.returned (.tuple #[.agg (zS c n d h g a 0 b),zN])/\Below w.heap.size w w':=by
 obtain ⟨S,X⟩:=qA (w.heap.size);obtain ⟨i,r⟩:=qB ((w.alloc (.cells (zS c n d h g a 0 b) 40)).alloc (.cells zZ 40));obtain ⟨u,C,z,L⟩:=ZK w _ _ _ _ r;rw [X] at u C L;have R:=zh (Q8 i c n d h g l a 0 b [] (y.later z) (Xk A) V W);have Q:=zh r;have D:=zh u;have U:=zh C;have M:=zh z;have O:=zh A;have P:=zh y.1.len;obtain ⟨j,c1,c2,c3⟩:=u.cells;have E:=j;have F:=c1;have G:=c2;have H:=c3;rw [r] at E F G H;clear u C z L r y A j c1 c2 c3;go_enter Tryz.func95,Tryz.ntmps95;go_wp2;go_loopw [4] (fun (p:Value) wr=>p=.slice none 0 0/\wr=i) (fun _ _=>0)
 case atStart=>exact ⟨rfl,Q.o.symm⟩
 case round =>
  obtain ⟨rfl,rfl⟩:=hrel;obtain ⟨j,c1,c2,c3⟩:=D.o.cells;go_wp2_with fail
  refine R.o.mono ?_;rintro e B ⟨t,q,f,rfl,I,s⟩;cases f with
  | true =>
   exfalso;rcases I with ⟨e,_⟩ | ⟨_,af,Z,ae,ad,rfl,J,aa,ab⟩
   ·cases e
   rw [UM O.o (by have:=P.o;omega) (by omega) Z] at J;cases J
  | false =>
   obtain ⟨E,F,G,H⟩:=(D.o.later s).cells;have x:=zh (U.o.later s);have N:=zh (za M.o s);obtain ⟨ag,ah,ai,aj⟩:=x.o.cells;have ak:∀ k,B.frozen? (zA (S+1) k)=false:=fun k=>frozen_of_row B (S+1) k _ _ x.o;clear I s j c1 c2 c3;go_wp2;have Y:=zk B (S+1) 40 _ _ _ _ (zI c) (zI n) (.slice d h g) (.slice a 0 b) x.o;refine bodyPost_ret (v:=.tuple #[.agg (zS c n d h g a 0 b),zN]) (zt Tryz.results95 _ _ (S+1) 40 (zS c n d h g a 0 b) (0,0) _ rfl Y.1 Tryz.underlying40 rfl (by kernel_rfl)) rfl ⟨rfl,?_⟩;have m:w.heap.size<=S+1:=(by omega);exact ((((N.o.setCell (p:=(zA (S+1) 0)) m _).setCell (p:=(zA (S+1) 1)) m _).setCell (p:=(zA (S+1) 2)) m _).setCell (p:=(zA (S+1) 3)) m _)
theorem Lr (w:World) (c n:Int) (f:Option Addr) (h g:Nat) (a:Option Addr) (d b:Nat) :
 zC 96 #[.agg (zS c n f h g a d b),zN] w fun e w'=>e=.returned (.tuple #[.agg (zS c n f h g a d b),zN,zN])/\Below w.heap.size w w':=by
 obtain ⟨S,B⟩:=qA (w.heap.size);obtain ⟨j,m⟩:=qB ((w.alloc (.cells (zS c n f h g a d b) 40)).alloc (.cells zZ 40));obtain ⟨s,t,u,x⟩:=ZK w _ _ _ _ m;rw [B] at s t x;have z:=zh m;have A:=zh s;have l:=zh t;have y:=zh u;clear s t u x m;go_enter Tryz.func96,Tryz.ntmps96;go_wp2;go_loopw [7,8,15] (fun (p q r:Value) wr=>p=.slice none 0 0/\q=.slice none 0 0/\r=zI 0/\wr=j) (fun _ _ _ _=>0)
 case atStart=>exact ⟨rfl,rfl,rfl,z.o.symm⟩
 case round =>
  obtain ⟨rfl,rfl,rfl,rfl⟩:=hrel;obtain ⟨D,E,F,G⟩:=A.o.cells;obtain ⟨H,I,J,L⟩:=l.o.cells;have M:∀ k,wr.frozen? (zA (S+1) k)=false:=fun k=>frozen_of_row wr (S+1) k _ _ l.o;go_wp2;have C:=zk wr (S+1) 40 _ _ _ _ (zI c) (zI n) (.slice f h g) (.slice a d b) l.o;refine bodyPost_ret (v:=.tuple #[.agg (zS c n f h g a d b),zN,zN]) (zq Tryz.results96 _ _ (S+1) 40 (zS c n f h g a d b) (0,0) _ rfl C.1 Tryz.underlying40 rfl (by kernel_rfl)) rfl ⟨rfl,?_⟩;have i:w.heap.size<=S+1:=by omega
  exact ((((y.o.setCell (p:=(zA (S+1) 0)) i _).setCell (p:=(zA (S+1) 1)) i _).setCell (p:=(zA (S+1) 2)) i _).setCell (p:=(zA (S+1) 3)) i _)
theorem yF {P:Program} {fn:Func} {p u v x:Tmp} {a:TypeId} (h:fn.results=#[.cell p a,.tmp u,.tmp v,.tmp x]) (tmps:Array Value) (w:World) (g:Nat) (t:TypeId) (cs:Array Value) (fr:Nat×Nat) (d:TypeDesc)
 (e:tmps.getD p undef=.pointer (zO g 0)) (hg:w.heap[g]?=some (.cells cs t fr)) (i:P.underlying a=some d) (b:(match d with | .struct _ | .array _ _=>true | _=>false)=true) (c:(P.info? a).map (·.size)=some cs.size) :
 (results fn tmps).run P w=.ok (.tuple #[.agg cs,tmps.getD u undef,tmps.getD v undef,tmps.getD x undef]) w:=by
 have f:tmps[p]?.getD undef=.pointer (zO g 0):=by simpa using e
 simp [results,h,f,asAddr,run_loadVar_row w g t a cs fr d hg i b c,Result.andThen]
def YP:List Nat->World->World
 | [],w=>w
 | k::ks,w=>Ui k (YP ks w)
theorem XV:∀ (ks:List Nat) (w:World),(YP ks w).heap.size=w.heap.size
 | [],_=>rfl
 | k::ks,w=>by rw [YP,Vb,XV ks w]
theorem RG:∀ {ks:List Nat} {w:World} {b:Nat},b∉ks->(YP ks w).heap[b]?=w.heap[b]?
 | [],_,_,_=>rfl
 | k::ks,w,b,h=>by
  rw [List.mem_cons,not_or] at h;rw [YP,show (Ui k (YP ks w)).heap[b]?=(YP ks w).heap[b]? from World.putObj_heap_other h.1,RG h.2]
theorem P3:∀ {ks:List Nat} {w:World} {b:Nat},b∈ks->b<w.heap.size->(YP ks w).heap[b]?=some (.deferred none)
 | k::ks,w,b,h,hl=>by
  by_cases e:b=k
  ·subst e;exact World.putObj_heap_same (by rw [XV];exact hl)
  rw [YP,show (Ui k (YP ks w)).heap[b]?=(YP ks w).heap[b]? from World.putObj_heap_other e];exact P3 ((List.mem_cons.1 h).resolve_left e) hl
theorem Tj:∀ (ks:List Nat) (w:World),(YP ks w).os=w.os/\(YP ks w).tape=w.tape/\(YP ks w).output=w.output
 | [],_=>⟨rfl,rfl,rfl⟩
 | k::ks,w=>by
  obtain ⟨a,b,c⟩:=Tj ks w;exact ⟨a,b,c⟩
structure But (ks:List Nat) (w w':World):Prop where
 os:w'.os=w.os
 tape:w'.tape=w.tape
 output:w'.output=w.output
 size:w.heap.size<=w'.heap.size
 block:∀ k,k<w.heap.size->k∉ks->w'.heap[k]?=w.heap[k]?
theorem But.refl (ks:List Nat) (w:World):But ks w w:=⟨rfl,rfl,rfl,Nat.le_refl _,fun _ _ _=>rfl⟩
theorem But.trans {ks:List Nat} {a b c:World} (h:But ks a b) (k:But ks b c):But ks a c :=
 ⟨k.os.trans h.os,k.tape.trans h.tape,k.output.trans h.output,Nat.le_trans h.size k.size,fun i d hn=>(k.block i (Nat.lt_of_lt_of_le d h.size) hn).trans (h.block i d hn)⟩
theorem But.grown {ks:List Nat} {w w':World} {g:Nat} (h:w.grownBy w' (some g)) (hg:g∈ks):But ks w w' :=
 ⟨h.os,h.tape,h.output,h.size,fun k a hn=>h.block k a (fun e=>hn (by rw [Option.some.inj e];exact hg))⟩
theorem But.below {ks:List Nat} {w w':World} (h:Below w.heap.size w w'):But ks w w':=⟨h.os,h.tape,h.output,h.size,fun k a _=>h.block k a⟩
theorem But.set {ks:List Nat} {w:World} {p:Addr} (a:p.block∈ks) (v:Value):But ks w (w.setCell p v) :=
 ⟨rfl,rfl,rfl,by simp [World.setCell],fun k _ hn=>Below.heap_setCell _ _ _ k (fun e=>hn (by rw [e];exact a))⟩
theorem But.far {ks:List Nat} {B:Nat} {w w':World} (h:But ks w w') (b:B<=w.heap.size) (a:∀ k∈ks,B<=k):Below B w w' :=
 ⟨h.os,h.tape,h.output,h.size,fun k c=>h.block k (by omega) (fun e=>by have:=a k e;omega)⟩
theorem ZI {ks:List Nat} {w w':World} (h:But ks w w'):Below (YP ks w).heap.size (YP ks w) (YP ks w'):=by
 obtain ⟨b,c,d⟩:=Tj ks w;obtain ⟨b1,f,g⟩:=Tj ks w';refine ⟨by rw [b,b1,h.os],by rw [c,f,h.tape],by rw [d,g,h.output],by rw [XV,XV];exact h.size,fun k a=>?_⟩;rw [XV] at a;by_cases e:k∈ks
 ·rw [P3 e a,P3 e (Nat.lt_of_lt_of_le a h.size)]
 rw [RG e,RG e,h.block k a e]
theorem RunsIn.offL {w:World} {a:Option Addr} {n f:Nat} {l:zd} (h:RunsIn w a n f l):∀ (ks:List Nat),(0<n->∀ b c,a=zO b c->b∉ks)->RunsIn (YP ks w) a n f l
 | [],_=>h
 | k::ks,hn=>(RunsIn.offL h ks fun d b c e i=>hn d b c e (List.mem_cons_of_mem _ i)).off fun d b c e g=>hn d b c e (by rw [g];exact List.mem_cons_self ..)
theorem QsIn.offL {w:World} {a:Option Addr} {n m:Nat} {l:QL} (h:QsIn w a n m l):∀ (ks:List Nat),(0<n->∀ b c,a=zO b c->b∉ks)->(∀ i,i<n->0<(qu l i).cn->∀ b c,(qu l i).ca=zO b c->b∉ks)->QsIn (YP ks w) a n m l
 | [],_,_=>h
 | k::ks,hn,hc=>(QsIn.offL h ks (fun d b c e g=>hn d b c e (List.mem_cons_of_mem _ g)) (fun i j d b c e g=>hc i j d b c e (List.mem_cons_of_mem _ g))).off (fun d b c e f=>hn d b c e (by rw [f];exact List.mem_cons_self ..)) (fun i j d b c e f=>hc i j d b c e (by rw [f];exact List.mem_cons_self ..))
theorem RunsIn.onL {a:Option Addr} {n b:Nat} {l:zd}:∀ {ks:List Nat} {w:World},RunsIn (YP ks w) a n b l->RunsIn w a n b l
 | [],_,h=>h
 | _::_,_,h=>RunsIn.onL (RunsIn.on h)
theorem QsIn.onL {a:Option Addr} {n b:Nat} {l:QL}:∀ {ks:List Nat} {w:World},QsIn (YP ks w) a n b l->QsIn w a n b l
 | [],_,h=>h
 | _::_,_,h=>QsIn.onL (QsIn.on h)
theorem wT.onL {x:Bk} {ks:List Nat} {w:World} (h:wT (YP ks w) x):wT w x:=⟨RunsIn.onL h.1,RunsIn.onL h.2⟩
theorem RunsIn.set_slice {w:World} {a:Option Addr} {n g:Nat} {l:zd} (h:RunsIn w a n g l) {p:Addr} {x:Option Addr} {m k:Nat} (s:w.cell? p=some (.slice x m k)) (u:Value):RunsIn (w.setCell p u) a n g l:=by
 refine ⟨h.len,h.le,h.bound,h.capb,fun c=>?_,fun c b f e=>(h.thaw c b f e).set p u⟩;obtain ⟨b,f,r,j⟩:=h.cells c;have key:∀ q v,w.cell? q=some (zI v)->(w.setCell p u).cell? q=some (zI v):=fun q v d=>by
  by_cases e:p=q
  ·subst e;rw [s] at d;cases d
  rw [World.cell?_setCell_other (w:=w) (v:=u) (h:=e)];exact d
 exact ⟨b,f,r,fun i o=>⟨key _ _ (j i o).1,key _ _ (j i o).2⟩⟩
def yP (l:QL) (q:Nat) (rs:zd):QL:=l.set q ⟨(qu l q).name,(qu l q).parent,none,0,0,rs⟩
def ZG (c n:Int) (l:QL) (b:BL) (q:Int) (rs:zd):Int:=if zU c n l b=0 then (if 0<=q/\q<l.length then z9 (yP l q.toNat rs) else 6) else zU c n l b
theorem U9 {l b:QL} (h:zi b=zi l) (q:Nat) (a:Option Addr) (m k:Nat) (rs:zd):zi (b.set q ⟨(qu b q).name,(qu b q).parent,a,m,k,rs⟩)=zi (yP l q rs):=by
 have c:(qu b q).bare=(qu l q).bare:=by rw [<-Z8,h,Z8]
 have d:(qu b q).name=(qu l q).name:=(show (qu b q).bare.name=(qu l q).bare.name by rw [c]);have e:(qu b q).parent=(qu l q).parent:=(show (qu b q).bare.parent=(qu l q).bare.parent by rw [c]);unfold yP zi at *;rw [List.map_set,List.map_set,h,d,e];rfl
theorem Zd (l:QL) (q:Nat) (rs:zd):(yP l q rs).length=l.length:=List.length_set
theorem Yh {l c:QL} {b:BL} (h:Clean l b) (d:z9 c=0) (f:c.length=l.length):Clean c b:=by
 refine ⟨d,h.few,fun i e=>?_⟩;have a:=h.each i e;unfold ZZ yI at a ⊢;rw [if_pos h.tree] at a;rw [if_pos d,f];exact a
theorem Wg {l:QL} {b a:BL} (h:Clean l b) (c:zg a=zg b):Clean l a:=by
 have d:a.length=b.length:=O1 c;refine ⟨h.tree,by rw [d];exact h.few,fun i e=>?_⟩;rw [<-Y7,LI c,Y7];exact h.each i (by omega)
def LB (w w':World) (e:Ending) (c n:Int) (tn:Nat) (l:QL) (b:BL) (q:Nat) (rs:zd):Prop :=
 ∃ (g k1:Nat) (l9:QL) (aa:Option Addr) (k9:Nat) (b9 b0 b1 aw:BL) (mv dr:List Int) (ma:Option Addr) (mk:Nat) (da:Option Addr) (dk:Nat),
  e=.returned (.tuple #[.agg (zS c n (zO g 0) tn k1 aa (List.length b9) k9),.slice ma (List.length mv) mk,.slice da (List.length dr) dk,zI 0])/\zY w' (zO g 0) tn k1 l9 aa b9.length k9 b9/\zi l9=zi (yP l q rs)/\zg b0=zg b/\Lit c l9 b0 b1 aw/\(∀ u,c<=u->u<48->∀ k,k<l9.length->yw l9 b1 u k=false)/\Stl c l9 b1 aw aw.length b9 mv dr/\zG w' w.heap.size (.slice ma mv.length mk) mv/\zG w' w.heap.size (.slice da dr.length dk) dr/\Below w.heap.size w w'
def JO (w w':World) (e:Ending) (c n:Int) (tn:Nat) (l:QL) (b:BL) (q:Nat) (rs:zd):Prop :=
 ∃ (g k1:Nat) (l9:QL) (aa:Option Addr) (k9:Nat) (b9 b0 b1 aw:BL) (mv dr:List Int) (ma:Option Addr) (mk:Nat) (da:Option Addr) (dk:Nat),
  e=.returned (.tuple #[.agg (zS c n (zO g 0) tn k1 aa (List.length b9) k9),.slice ma (List.length mv) mk,.slice da (List.length dr) dk,zI 0])/\zY w' (zO g 0) tn k1 l9 aa b9.length k9 b9/\zi l9=zi (yP l q rs)/\zg b0=zg b/\Lit c l9 b0 b1 aw/\(∀ u,c<=u->u<48->∀ k,k<l9.length->yw l9 b1 u k=false)/\Stl c l9 b1 aw aw.length b9 mv dr/\zG w' w.heap.size (.slice ma mv.length mk) mv/\zG w' w.heap.size (.slice da dr.length dk) dr/\Below w.heap.size w w'/\NewSt w.heap.size (zO g 0) tn l9 aa b9.length b9
def Rd (w:World) (R:Nat) (t:ByteArray) (k:Nat):Prop:=w.heap[R]?=some (.cells #[.string t,zI k] 82 (0,0))
theorem Rd.later {w w':World} {a:Nat} {t:ByteArray} {k:Nat} (h:Rd w a t k) (b:Below w.heap.size w w'):Rd w' a t k:=(b.block a (Array.getElem?_eq_some_iff.1 h).1).trans h
def Zx (w:World) (v:Value):Prop:=w.cell? (zA 0 0)=some v/\∃ T u,v=.iface T u
def byt (t:ByteArray) (k:Nat):Int:=if h:k<t.size then (t[k].toNat:Int) else 0
theorem Wb (t:ByteArray) (k:Nat):0<=byt t k/\byt t k<=255:=by
 unfold byt
 split
 ·rename_i h;have:=t[k].toNat_lt;omega
 omega
theorem But.drewN (ks:List Nat) (w:World) (d:Nat):But ks w (w.drewN d):=⟨rfl,rfl,rfl,Nat.le_refl _,fun _ _ _=>rfl⟩
theorem Jm (w:World) (a:Nat) (t:ByteArray) (k:Nat) (h:Rd w a t k) (f:k<t.size) (n:t.size<=4096) :
 zC 74 #[.pointer (zO a 0)] w fun e w'=>e=.returned (zI (byt t k))/\Rd w' a t (k+1)/\But [a] w w':=by
 have g:w.cell? (zA a 0)=some (.string t):=by rw [cell_of_row w a 0 _ _ _ h];rfl
 have c1:w.cell? (zA a 1)=some (zI k):=by rw [cell_of_row w a 1 _ _ _ h];rfl
 have i:∀ m,w.frozen? (zA a m)=false:=fun m=>frozen_of_row w a m _ _ h;have j:¬(t.size<=k):=by omega
 have l:(k:Int)<t.size:=by omega
 have b:=zh h;clear h;go_enter Tryz.func74,Tryz.ntmps74;go_wp2;go_quiet (fail)
 go_wp2;go_quiet (fail)
 go_wp2;have c:byt t k=(t[k].toNat:Int):=by unfold byt;rw [dif_pos f]
 have d:wrap64 (t[k].toNat:Int)=(t[k].toNat:Int):=by
  have:=t[k].toNat_lt;unfold wrap64;omega
 rw [c,d];go_ret;exact ⟨rfl,heap_setCell_same (w.drewN _) a 1 _ _ _ b.o,(But.drewN [a] w _).trans (But.set (p:=(zA a 1)) (List.mem_singleton.2 rfl) _)⟩
theorem Jl (w:World) (a:Nat) (t:ByteArray) (k:Nat) (h:Rd w a t k) (d:t.size<=k) (v:Value) (b:Zx w v) :
 zC 74 #[.pointer (zO a 0)] w fun e w'=>e=.panicked [{ v:=v,recovered:=false }]/\But [a] w w':=by
 have c:w.cell? (zA a 0)=some (.string t):=by rw [cell_of_row w a 0 _ _ _ h];rfl
 have c1:w.cell? (zA a 1)=some (zI k):=by rw [cell_of_row w a 1 _ _ _ h];rfl
 obtain ⟨f,T,u,rfl⟩:=b;clear h;go_enter Tryz.func74,Tryz.ntmps74;go_wp2;go_quiet (fail)
 go_wp2;exact ⟨rfl,rfl,But.drewN _ _ _⟩
theorem Zx.but {w w':World} {v:Value} {a:Nat} (h:Zx w v) (c:0<a) (b:But [a] w w'):Zx w' v:=by
 refine ⟨?_,h.2⟩;rw [World.cell?_of_block (w:=w) (b.block 0 (block_lt_of_cell h.1) (fun e=>by have:=List.mem_singleton.1 e;omega))];exact h.1
theorem xO (w:World) (a:Nat) (t:ByteArray) (k:Nat) (h:Rd w a t k) (g:t.size<=4096) (v:Value) (i:Zx w v) :
 zC 74 #[.pointer (zO a 0)] w fun e w'=>(k<t.size/\e=.returned (zI (byt t k))/\Rd w' a t (k+1)/\But [a] w w')\/(t.size<=k/\e=.panicked [{ v:=v,recovered:=false }]/\But [a] w w'):=by
 by_cases d:k<t.size
 ·refine (Jm w a t k h d g).mono ?_;rintro e w' ⟨b,c,f⟩;exact Or.inl ⟨d,b,c,f⟩
 ·refine (Jl w a t k h (by omega) v i).mono ?_;rintro e w' ⟨b,c⟩;exact Or.inr ⟨by omega,b,c⟩
theorem QZ (w:World) (a:Nat) (t:ByteArray) (k:Nat) (h:Rd w a t k) (x:t.size<=4096) (v:Value) (g:Zx w v) (r:0<a) (c:Int) :
 zC 76 #[.pointer (zO a 0),zI c] w fun e w'=>(k<t.size/\byt t k<=c/\e=.returned (zI (byt t k))/\Rd w' a t (k+1)/\But [a] w w')\/(¬(k<t.size/\byt t k<=c)/\e=.panicked [{ v:=v,recovered:=false }]/\But [a] w w'):=by
 have p:=zh (xO w a t k h x v g);have n:=zh g;clear h g;go_enter Tryz.func76,Tryz.ntmps76;go_wp2_with fail
 refine p.o.mono ?_;rintro e D (⟨j,rfl,l,b⟩ | ⟨j,rfl,b⟩)
 ·obtain ⟨y,i⟩:=qA (byt t k);rw [i];have z:=n.o.but r b;obtain ⟨C,T,u,A⟩:=z;subst A;have m:=zh l;have d:=zh b;have f:=zh i;clear l b i;by_cases B:y<=c
  ·have s:¬c<y:=(by omega);go_wp2;go_ret;exact Or.inl ⟨j,by rw [f.o];omega,by rw [f.o];rfl,m.o,d.o⟩
  have s:c<y:=by omega
  go_wp2;exact ⟨rfl,Or.inr ⟨fun h=>by have q:=h.2;rw [f.o] at q;omega,rfl,d.o⟩⟩
 ·have d:=zh b;clear b;go_wp2;exact ⟨rfl,Or.inr ⟨fun h=>by omega,rfl,d.o⟩⟩
def Ye (t:ByteArray) (k n:Nat):zd:=(List.range n).map fun j=>(byt t (k+2*j),byt t (k+2*j+1))
theorem yD (t:ByteArray) (k n:Nat):(Ye t k n).length=n:=by simp [Ye]
theorem UN (t:ByteArray) (k n:Nat):Ye t k (n+1)=Ye t k n++[(byt t (k+2*n),byt t (k+2*n+1))]:=by simp [Ye,List.range_succ]
theorem Us (l:zd) (a b:Int):cellsOf (l++[(a,b)])=cellsOf l++[zI a,zI b]:=by
 induction l with
 | nil=>rfl
 | cons p l ih =>
  obtain ⟨x,y⟩:=p;show _::_::cellsOf (l++[(a,b)])=_;rw [ih];rfl
theorem But.later {ks:List Nat} {w a b:World} (h:But ks w a) (c:Below a.heap.size a b):But ks w b:=h.trans (But.below c)
theorem VG {w w':World} {a B b:Nat} {v:Value} {n z:Nat} {c:List Value} (h:w.ownsRow B b z v n c) (k:But [a] w w') (j:v.ownBlock≠some a):w'.ownsRow B b z v n c:=by
 refine ⟨h.1,?_⟩;rcases h.2 with l | ⟨g,d,f,rfl,i,hg,rest⟩
 ·exact .inl l
 exact .inr ⟨g,d,f,rfl,i,(k.block g (Array.getElem?_eq_some_iff.1 hg).1 (fun e=>j (by rw [List.mem_singleton.1 e];rfl))).trans hg,rest⟩
theorem QA (w:World) (a b:Int) :
 zC 117 #[zI a,zI b] w fun e w'=>e=.returned (.agg #[zI a,zI b])/\Below w.heap.size w w':=by
 obtain ⟨S,f⟩:=qA (w.heap.size);have c:=zh f;go_enter Tryz.func117,Tryz.ntmps117;go_wp2_with fail
 have d:(w.alloc (.cells #[zI a,zI b] 64)).heap[S]?=some (.cells #[zI a,zI b] 64 (0,0)):=by rw [<-c.o];exact heap_alloc_new w _
 refine bodyPost_ret (v:=.agg #[zI a,zI b]) (results_cell_row Tryz.results117 _ _ S 64 #[zI a,zI b] (0,0) _ rfl d Tryz.underlying64 rfl (by kernel_rfl)) rfl ⟨rfl,?_⟩;exact zr _ _
theorem UP (w:World) (B:Nat) (v:Value) (l:zd) (h:w.ownsRow B 64 2 v l.length (cellsOf l)) (a b:Int) (c:Nat) (t:w.heap[c]?=some (.cells #[zI a,zI b] 64 (0,0))) (C:l.length<=1000) (s:B<=w.heap.size) :
 ∃ g k w',(∀ f,(Builtin.append_ #[22,22] f #[v,.slice (zO c 0) 1 1]).run Tryz.prog w=.ok (.slice (zO g 0) (l.length+1) k) w')/\w'.ownsRow B 64 2 (.slice (zO g 0) (l.length+1) k) (l.length+1) (cellsOf (l++[(a,b)]))/\w.grownBy w' v.ownBlock:=by
 obtain ⟨y,x,e⟩:=Option.map_eq_some_iff.1 (show (Tryz.prog.info? 64).map (fun i=>(i.zero,i.size,i.bytes))=some (some (.agg #[zI 0,zI 0]),2,16) from by kernel_rfl);simp only [Prod.mk.injEq] at e;obtain ⟨m,n,o⟩:=e;obtain ⟨g,k,w',p,q,r,z,A⟩:=run_append_lies w 22 0 B 64 y _ 2 16 Tryz.underlying22 x m n o (by rfl) (by omega) v l.length _ h (zA c 0) 1 1 [zI a,zI b] (by simp)
  (fun j u d=>by rw [Addr.add_lit,Nat.zero_add,cell_of_row w c j _ _ _ t];simpa using d) (fun u d=>by
   simp only [List.mem_cons,List.not_mem_nil,or_false] at d;rcases d with rfl | rfl <;> rfl) (by omega) (by simp only [maxLen];omega) (by omega) s w.heap.size rfl
 exact ⟨g,k,w',fun f=>p,by rw [Us];exact q,r⟩
theorem QB (w:World) (d:Nat) (t:ByteArray) (k n:Nat) (h:Rd w d t k) (ag:t.size<=4096) (v:Value) (ai:Zx w v) (Z:0<d) (hn:n<=255) (aO:k<=t.size) :
 zC 116 #[zI n,.func (.func 74) #[.pointer (zO d 0)] #[],.func (.func 117) #[] #[]] w fun e w' =>
  (k+2*n<=t.size/\∃ a c,e=.returned (.slice a n c)/\RunsIn w' a n c (Ye t k n)/\(∀ b S,a=zO b S->w.heap.size<=b)/\Rd w' d t (k+2*n)/\But [d] w w') \/
  (t.size<k+2*n/\e=.panicked [{ v:=v,recovered:=false }]/\But [d] w w'):=by
 have aM:d<w.heap.size:=(Array.getElem?_eq_some_iff.1 h).1;have al:=zh h;have V:=zh ai;clear h ai;go_enter Tryz.func116,Tryz.ntmps116;go_wp2_with fail
 go_loopg [7,11] n (fun az (u p:Value) wr=>∃ i:Nat,p=zI i/\i<=n/\az=n-i/\k+2*i<=t.size/\wr.ownsRow w.heap.size 64 2 u (Ye t k i).length (cellsOf (Ye t k i))/\Rd wr d t (k+2*i)/\But [d] w wr)
 case atStart=>exact ⟨0,rfl,by omega,by omega,by omega,World.ownsRow_nil _ _ _ _,al.o,But.refl _ _⟩
 case round =>
  obtain ⟨i,rfl,aN,rfl,aF,D,M,z⟩:=hrel;have C:∀ {u:Value} {xs:List Value} {m:Nat} {wx:World},wx.ownsRow w.heap.size 64 2 u m xs->u.ownBlock≠some d:=fun E e=>by have:=(E.lt d e).1;omega
  by_cases aP:i<n
  ·have aQ:(i:Int)<n:=(by omega);have av:=zh (xO wr d t (k+2*i) M ag v (V.o.but Z z));have J:=zh D;have G:=zh z;have ah:=C D;have N:=zh ah;clear D M z ah;go_wp2_with fail
   refine av.o.mono ?_;rintro e aK (⟨aA,rfl,ab,l⟩ | ⟨aA,rfl,l⟩)
   ·have O:=G.o.trans l;have aw:=zh (xO aK d t (k+2*i+1) ab ag v (V.o.but Z O));have ap:=zh (VG J.o l N.o);have H:=zh O;obtain ⟨x,E⟩:=qA (byt t (k+2*i));rw [E];have ar:=zh E;clear ab l O E;go_wp2_with fail
    refine aw.o.mono ?_;rintro e aj (⟨aB,rfl,ad,r⟩ | ⟨aB,rfl,r⟩)
    ·have I:=zh (H.o.trans r);have aq:=zh (VG ap.o r N.o);have U:=zh ad;obtain ⟨y,R⟩:=qA (byt t (k+2*i+1));rw [R];have au:=zh R;have ax:=zh (QA aj x y);clear ad r R;go_wp2_with fail
     refine ax.o.mono ?_;rintro e F ⟨rfl,A⟩;have af:=zT aq.o A;obtain ⟨s,L⟩:=qB (F.alloc (.cells #[zI x,zI y] 64));have B:zL F s:=(by rw [L];exact zr _ _);have Y:s.heap[F.heap.size]?=some (.cells #[zI x,zI y] 64 (0,0)):=(by rw [L];exact heap_alloc_new F _);have aH:=I.o.size;have aI:=A.size;have aJ:=B.size;obtain ⟨g,aL,W,Q,P,f⟩:=UP s w.heap.size _ _ (zT af B) x y F.heap.size Y (by rw [yD];omega) (by omega);rw [yD] at Q P;rw [L] at Q;have aC:d<aj.heap.size:=(Array.getElem?_eq_some_iff.1 U.o).1;have ae:Rd W d t (k+2*i+1+1):=(f.block d (by omega) (fun e=>N.o e.symm)).trans ((U.o.later A).later B);have X:But [d] w W:=by
      have q:=(I.o.later A).later B;refine ⟨f.os.trans q.os,f.tape.trans q.tape,f.output.trans q.output,Nat.le_trans q.size f.size,fun j aD aE=>?_⟩;rw [f.block j (by omega) (fun e=>by have:=(J.o.lt j e.symm).1;omega)];exact q.block j aD aE
     have am:=zh P;have ao:=zh ae;have ak:=zh X;clear af A L B Y P f ae X aH aI aJ aC C;go_wp2_with (at_builtin;refine Lib.wpList_append_run _ rfl _ _ _ _ rfl _ _ rfl rfl _ _ (Q _) ?_)
     go_roundg (n-(i+1))
     case measure=>omega
     refine ⟨i+1,by go_num,by omega,by omega,by omega,?_,?_,ak.o⟩
     ·rw [yD,UN,ar.o,au.o];exact am.o
     rw [show k+2*(i+1)=k+2*i+1+1 by omega];exact ao.o
    have I:=zh (H.o.trans r);clear r C;go_wp2;exact ⟨rfl,Or.inr ⟨by omega,rfl,I.o⟩⟩
   have H:=zh (G.o.trans l);clear l C;go_wp2;exact ⟨rfl,Or.inr ⟨by omega,rfl,H.o⟩⟩
  obtain rfl:i=n:=by omega
  have J:=zh D;have an:=zh M;have G:=zh z;clear D M z C;go_wp2;go_ret;obtain ⟨a,c,e,aa,aG⟩:=Yq J.o (by rw [yD];omega);rw [yD] at e aa;refine Or.inl ⟨aF,a,c,?_,aa,fun b S ay=>(aG b S ay).1,an.o,G.o⟩;show Ending.returned u7=_;rw [e]
theorem Nr (w:World) (a b:Int) :
 zC 119 #[zI a,zI b] w fun e w'=>e=.returned (.agg #[zI a,zI b])/\Below w.heap.size w w':=by
 obtain ⟨S,f⟩:=qA (w.heap.size);have c:=zh f;go_enter Tryz.func119,Tryz.ntmps119;go_wp2_with fail
 have d:(w.alloc (.cells #[zI a,zI b] 55)).heap[S]?=some (.cells #[zI a,zI b] 55 (0,0)):=by rw [<-c.o];exact heap_alloc_new w _
 refine bodyPost_ret (v:=.agg #[zI a,zI b]) (results_cell_row Tryz.results119 _ _ S 55 #[zI a,zI b] (0,0) _ rfl d Tryz.underlying55 rfl (by kernel_rfl)) rfl ⟨rfl,?_⟩;exact zr _ _
theorem RU (w:World) (B:Nat) (v:Value) (l:zd) (h:w.ownsRow B 55 2 v l.length (cellsOf l)) (a b:Int) (c:Nat) (t:w.heap[c]?=some (.cells #[zI a,zI b] 55 (0,0))) (C:l.length<=1000) (s:B<=w.heap.size) :
 ∃ g k w',(∀ f,(Builtin.append_ #[25,25] f #[v,.slice (zO c 0) 1 1]).run Tryz.prog w=.ok (.slice (zO g 0) (l.length+1) k) w')/\w'.ownsRow B 55 2 (.slice (zO g 0) (l.length+1) k) (l.length+1) (cellsOf (l++[(a,b)]))/\w.grownBy w' v.ownBlock:=by
 obtain ⟨y,x,e⟩:=Option.map_eq_some_iff.1 (show (Tryz.prog.info? 55).map (fun i=>(i.zero,i.size,i.bytes))=some (some (.agg #[zI 0,zI 0]),2,16) from by kernel_rfl);simp only [Prod.mk.injEq] at e;obtain ⟨m,n,o⟩:=e;obtain ⟨g,k,w',p,q,r,z,A⟩:=run_append_lies w 25 0 B 55 y _ 2 16 Tryz.underlying25 x m n o (by rfl) (by omega) v l.length _ h (zA c 0) 1 1 [zI a,zI b] (by simp)
  (fun j u d=>by rw [Addr.add_lit,Nat.zero_add,cell_of_row w c j _ _ _ t];simpa using d) (fun u d=>by
   simp only [List.mem_cons,List.not_mem_nil,or_false] at d;rcases d with rfl | rfl <;> rfl) (by omega) (by simp only [maxLen];omega) (by omega) s w.heap.size rfl
 exact ⟨g,k,w',fun f=>p,by rw [Us];exact q,r⟩
theorem Nx (w:World) (d:Nat) (t:ByteArray) (k n:Nat) (h:Rd w d t k) (ag:t.size<=4096) (v:Value) (ai:Zx w v) (Z:0<d) (hn:n<=255) (aO:k<=t.size) :
 zC 118 #[zI n,.func (.func 74) #[.pointer (zO d 0)] #[],.func (.func 119) #[] #[]] w fun e w' =>
  (k+2*n<=t.size/\∃ a c,e=.returned (.slice a n c)/\RunsIn w' a n c (Ye t k n)/\(∀ b S,a=zO b S->w.heap.size<=b)/\Rd w' d t (k+2*n)/\But [d] w w') \/
  (t.size<k+2*n/\e=.panicked [{ v:=v,recovered:=false }]/\But [d] w w'):=by
 have aM:d<w.heap.size:=(Array.getElem?_eq_some_iff.1 h).1;have al:=zh h;have V:=zh ai;clear h ai;go_enter Tryz.func118,Tryz.ntmps118;go_wp2_with fail
 go_loopg [7,11] n (fun az (u p:Value) wr=>∃ i:Nat,p=zI i/\i<=n/\az=n-i/\k+2*i<=t.size/\wr.ownsRow w.heap.size 55 2 u (Ye t k i).length (cellsOf (Ye t k i))/\Rd wr d t (k+2*i)/\But [d] w wr)
 case atStart=>exact ⟨0,rfl,by omega,by omega,by omega,World.ownsRow_nil _ _ _ _,al.o,But.refl _ _⟩
 case round =>
  obtain ⟨i,rfl,aN,rfl,aF,D,M,z⟩:=hrel;have C:∀ {u:Value} {xs:List Value} {m:Nat} {wx:World},wx.ownsRow w.heap.size 55 2 u m xs->u.ownBlock≠some d:=fun E e=>by have:=(E.lt d e).1;omega
  by_cases aP:i<n
  ·have aQ:(i:Int)<n:=(by omega);have av:=zh (xO wr d t (k+2*i) M ag v (V.o.but Z z));have J:=zh D;have G:=zh z;have ah:=C D;have N:=zh ah;clear D M z ah;go_wp2_with fail
   refine av.o.mono ?_;rintro e aK (⟨aA,rfl,ab,l⟩ | ⟨aA,rfl,l⟩)
   ·have O:=G.o.trans l;have aw:=zh (xO aK d t (k+2*i+1) ab ag v (V.o.but Z O));have ap:=zh (VG J.o l N.o);have H:=zh O;obtain ⟨x,E⟩:=qA (byt t (k+2*i));rw [E];have ar:=zh E;clear ab l O E;go_wp2_with fail
    refine aw.o.mono ?_;rintro e aj (⟨aB,rfl,ad,r⟩ | ⟨aB,rfl,r⟩)
    ·have I:=zh (H.o.trans r);have aq:=zh (VG ap.o r N.o);have U:=zh ad;obtain ⟨y,R⟩:=qA (byt t (k+2*i+1));rw [R];have au:=zh R;have ax:=zh (Nr aj x y);clear ad r R;go_wp2_with fail
     refine ax.o.mono ?_;rintro e F ⟨rfl,A⟩;have af:=zT aq.o A;obtain ⟨s,L⟩:=qB (F.alloc (.cells #[zI x,zI y] 55));have B:zL F s:=(by rw [L];exact zr _ _);have Y:s.heap[F.heap.size]?=some (.cells #[zI x,zI y] 55 (0,0)):=(by rw [L];exact heap_alloc_new F _);have aH:=I.o.size;have aI:=A.size;have aJ:=B.size;obtain ⟨g,aL,W,Q,P,f⟩:=RU s w.heap.size _ _ (zT af B) x y F.heap.size Y (by rw [yD];omega) (by omega);rw [yD] at Q P;rw [L] at Q;have aC:d<aj.heap.size:=(Array.getElem?_eq_some_iff.1 U.o).1;have ae:Rd W d t (k+2*i+1+1):=(f.block d (by omega) (fun e=>N.o e.symm)).trans ((U.o.later A).later B);have X:But [d] w W:=by
      have q:=(I.o.later A).later B;refine ⟨f.os.trans q.os,f.tape.trans q.tape,f.output.trans q.output,Nat.le_trans q.size f.size,fun j aD aE=>?_⟩;rw [f.block j (by omega) (fun e=>by have:=(J.o.lt j e.symm).1;omega)];exact q.block j aD aE
     have am:=zh P;have ao:=zh ae;have ak:=zh X;clear af A L B Y P f ae X aH aI aJ aC C;go_wp2_with (at_builtin;refine Lib.wpList_append_run _ rfl _ _ _ _ rfl _ _ rfl rfl _ _ (Q _) ?_)
     go_roundg (n-(i+1))
     case measure=>omega
     refine ⟨i+1,by go_num,by omega,by omega,by omega,?_,?_,ak.o⟩
     ·rw [yD,UN,ar.o,au.o];exact am.o
     rw [show k+2*(i+1)=k+2*i+1+1 by omega];exact ao.o
    have I:=zh (H.o.trans r);clear r C;go_wp2;exact ⟨rfl,Or.inr ⟨by omega,rfl,I.o⟩⟩
   have H:=zh (G.o.trans l);clear l C;go_wp2;exact ⟨rfl,Or.inr ⟨by omega,rfl,H.o⟩⟩
  obtain rfl:i=n:=by omega
  have J:=zh D;have an:=zh M;have G:=zh z;clear D M z C;go_wp2;go_ret;obtain ⟨a,c,e,aa,aG⟩:=Yq J.o (by rw [yD];omega);rw [yD] at e aa;refine Or.inl ⟨aF,a,c,?_,aa,fun b S ay=>(aG b S ay).1,an.o,G.o⟩;show Ending.returned u7=_;rw [e]
end Go.Proofs.YtckpdfkobdgjeaaGreatDoor
