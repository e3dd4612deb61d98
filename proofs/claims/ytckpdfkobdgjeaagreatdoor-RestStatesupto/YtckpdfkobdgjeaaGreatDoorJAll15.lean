/- Several texts in one: LogG, LogH, LogI, LogJ. -/
import Derived.Test.YtckpdfkobdgjeaaGreatDoorJAll14
import Derived.Defers
import Derived.Recover
namespace Go.Proofs.YtckpdfkobdgjeaaGreatDoor
set_option maxRecDepth 100000
set_option maxHeartbeats 4000000
open Go.RowKit
set_option linter.unusedSectionVars false
variable [Inhabited Mk]
theorem Sg (w:World) (d:Nat) (t:ByteArray) (k n:Nat) (h:Rd w d t k) (q:t.size<=4096) (v:Value) (j:Zx w v) (m:0<d) (hn:n<=255) (p:k<=t.size) :
 zC 75 #[zI n,.func (.func 74) #[.pointer (zO d 0)] #[]] w fun e w' =>
  (k+2*n<=t.size/\∃ a c,e=.returned (.slice a n c)/\RunsIn w' a n c (Ye t k n)/\(∀ b r,a=zO b r->w.heap.size<=b)/\Rd w' d t (k+2*n)/\But [d] w w') \/
  (t.size<k+2*n/\e=.panicked [{ v:=v,recovered:=false }]/\But [d] w w'):=by
 have l:=zh (QB w d t k n h q v j m hn p);clear h j;go_enter Tryz.func75,Tryz.ntmps75;go_wp2_with fail
 refine l.o.mono ?_;rintro e s (⟨i,a,c,rfl,f⟩ | ⟨i,rfl,f⟩)
 ·have g:=zh f;clear f;go_wp2;go_ret;exact Or.inl ⟨i,a,c,rfl,g.o⟩
 ·have g:=zh f;clear f;go_wp2;exact ⟨rfl,Or.inr ⟨i,rfl,g.o⟩⟩
theorem Qp (w:World) (d:Nat) (t:ByteArray) (k n:Nat) (h:Rd w d t k) (q:t.size<=4096) (v:Value) (j:Zx w v) (m:0<d) (hn:n<=255) (p:k<=t.size) :
 zC 77 #[zI n,.func (.func 74) #[.pointer (zO d 0)] #[]] w fun e w' =>
  (k+2*n<=t.size/\∃ a c,e=.returned (.slice a n c)/\RunsIn w' a n c (Ye t k n)/\(∀ b r,a=zO b r->w.heap.size<=b)/\Rd w' d t (k+2*n)/\But [d] w w') \/
  (t.size<k+2*n/\e=.panicked [{ v:=v,recovered:=false }]/\But [d] w w'):=by
 have l:=zh (Nx w d t k n h q v j m hn p);clear h j;go_enter Tryz.func77,Tryz.ntmps77;go_wp2_with fail
 refine l.o.mono ?_;rintro e s (⟨i,a,c,rfl,f⟩ | ⟨i,rfl,f⟩)
 ·have g:=zh f;clear f;go_wp2;go_ret;exact Or.inl ⟨i,a,c,rfl,g.o⟩
 ·have g:=zh f;clear f;go_wp2;exact ⟨rfl,Or.inr ⟨i,rfl,g.o⟩⟩
theorem MI (p q:Addr) (w:World) :
 CallsD Tryz.prog 73 #[.pointer (some p),.pointer (some q)] .returning w fun e f w'=>e=.returned (.tuple #[])/\f=.returning/\w'=w:=by
 have c:∀ a:World,(binOp .neq 20 .nilIface .nilIface).run Tryz.prog a=.ok (.bool false) a:=fun a=>by kernel_rfl
 refine callsD_of_wpS Tryz.func73 rfl fun b cs d=>?_;apply wpS_seq;apply wpS_region;simp [wpOpsS,go_sem,recoverD,d,Tryz.ntmps73,Exit.thenS,c];refine wpS_cond (t:=false) (by simp [Act.eval,Array.replicate]) ?_;simp only [Bool.false_eq_true,if_false];refine wpS_of_wp (wp_skip ?_);cases b
 simp_all [bodyPostS,results,Tryz.results73]
def wj (w:World) (A:Nat) (c0 c1 c2 c3 c4 c5 c6 c7:Value):Prop:=w.heap[A]?=some (.cells #[c0,c1,c2,c3,c4,c5,c6,c7] 27 (0,0))
theorem x8 (w:World) (i:Nat) (C s q p o n m l a b c d e f g h:Value) (r:wj w i C s q p o n m l) :
 wj ((((((((w.setCell (zA i 0) a).setCell (zA i 1) b).setCell (zA i 2) c).setCell (zA i 3) d).setCell (zA i 4) e).setCell (zA i 5) f).setCell (zA i 6) g).setCell (zA i 7) h) i a b c d e f g h /\
 ∀ k,k≠i->((((((((w.setCell (zA i 0) a).setCell (zA i 1) b).setCell (zA i 2) c).setCell (zA i 3) d).setCell (zA i 4) e).setCell (zA i 5) f).setCell (zA i 6) g).setCell (zA i 7) h).heap[k]?=w.heap[k]?:=by
 unfold wj at r ⊢;have t:(w.setCell (zA i 0) a).heap[i]?=some (.cells #[a,s,q,p,o,n,m,l] 27 (0,0)):=heap_setCell_same _ i 0 _ _ a r;have u:((w.setCell (zA i 0) a).setCell (zA i 1) b).heap[i]?=some (.cells #[a,b,q,p,o,n,m,l] 27 (0,0)):=heap_setCell_same _ i 1 _ _ b t;have v:(((w.setCell (zA i 0) a).setCell (zA i 1) b).setCell (zA i 2) c).heap[i]?=some (.cells #[a,b,c,p,o,n,m,l] 27 (0,0)):=heap_setCell_same _ i 2 _ _ c u;have x:((((w.setCell (zA i 0) a).setCell (zA i 1) b).setCell (zA i 2) c).setCell (zA i 3) d).heap[i]?=some (.cells #[a,b,c,d,o,n,m,l] 27 (0,0)):=heap_setCell_same _ i 3 _ _ d v;have y:(((((w.setCell (zA i 0) a).setCell (zA i 1) b).setCell (zA i 2) c).setCell (zA i 3) d).setCell (zA i 4) e).heap[i]?=some (.cells #[a,b,c,d,e,n,m,l] 27 (0,0)):=heap_setCell_same _ i 4 _ _ e x;have z:((((((w.setCell (zA i 0) a).setCell (zA i 1) b).setCell (zA i 2) c).setCell (zA i 3) d).setCell (zA i 4) e).setCell (zA i 5) f).heap[i]?=some (.cells #[a,b,c,d,e,f,m,l] 27 (0,0)):=heap_setCell_same _ i 5 _ _ f y;have A:(((((((w.setCell (zA i 0) a).setCell (zA i 1) b).setCell (zA i 2) c).setCell (zA i 3) d).setCell (zA i 4) e).setCell (zA i 5) f).setCell (zA i 6) g).heap[i]?=some (.cells #[a,b,c,d,e,f,g,l] 27 (0,0)):=heap_setCell_same _ i 6 _ _ g z;have B:((((((((w.setCell (zA i 0) a).setCell (zA i 1) b).setCell (zA i 2) c).setCell (zA i 3) d).setCell (zA i 4) e).setCell (zA i 5) f).setCell (zA i 6) g).setCell (zA i 7) h).heap[i]?=some (.cells #[a,b,c,d,e,f,g,h] 27 (0,0)):=heap_setCell_same _ i 7 _ _ h A;refine ⟨B,fun k j=>?_⟩;rw [heap_setCell_other _ (zA i 7) k _ j,heap_setCell_other _ (zA i 6) k _ j,heap_setCell_other _ (zA i 5) k _ j,heap_setCell_other _ (zA i 4) k _ j,heap_setCell_other _ (zA i 3) k _ j,heap_setCell_other _ (zA i 2) k _ j,heap_setCell_other _ (zA i 1) k _ j,heap_setCell_other _ (zA i 0) k _ j]
theorem wj.cells {w:World} {a:Nat} {b c1 c2 c3 c4 c5 c d:Value} (h:wj w a b c1 c2 c3 c4 c5 c d):w.cell? (zA a 0)=some b/\w.cell? (zA a 1)=some c1/\w.cell? (zA a 2)=some c2/\w.cell? (zA a 3)=some c3/\w.cell? (zA a 4)=some c4/\w.cell? (zA a 5)=some c5/\w.cell? (zA a 6)=some c/\w.cell? (zA a 7)=some d:=by
 unfold wj at h;refine ⟨?_,?_,?_,?_,?_,?_,?_,?_⟩ <;> (rw [cell_of_row w a _ _ _ _ h];rfl)
theorem Sj (a:Nat) (T:TypeId) (g:Value) (o:List PanicEntry) (w:World) (h c1 c2 c3 c4 c5 i j:Value) (x:Bool) (d:wj w a h c1 c2 c3 c4 c5 i j) (f:w.heap[a+1]?=some (.cells #[.bool x] 4 (0,0))) :
 CallsD Tryz.prog 73 #[.pointer (zO a 0),.pointer (zO (a+1) 0)] (.panicking ({ v:=.iface T g,recovered:=false }::o)) w fun e J w'=>e=.returned (.tuple #[])/\J=.panicking ({ v:=.iface T g,recovered:=true }::o)/\wj w' a (zI 0) (zI 0) (zI 0) (zI 0) (zI 0) (zI 0) zN zN/\w'.heap[a+1]?=some (.cells #[.bool false] 4 (0,0))/\But [a,a+1] w w':=by
 have H:∀ (c:World),(binOp .neq 20 (.iface T g) .nilIface).run Tryz.prog c=.ok (.bool true) c:=fun c=>by kernel_rfl
 obtain ⟨q,r,s,u,y,z,A,B⟩:=d.cells;have C:∀ m,w.frozen? (zA a m)=false:=fun m=>frozen_of_row w a m _ _ d;have D:w.cell? (zA (a+1) 0)=some (.bool x):=by rw [cell_of_row w (a+1) 0 _ _ _ f];rfl
 have E:w.frozen? (zA (a+1) 0)=false:=frozen_of_row w (a+1) 0 _ _ f;obtain ⟨l,n⟩:=x8 w a h c1 c2 c3 c4 c5 i j (zI 0) (zI 0) (zI 0) (zI 0) (zI 0) (zI 0) zN zN d;refine callsD_of_wpS Tryz.func73 rfl fun L cs I=>?_;apply wpS_seq;apply wpS_region;simp [wpOpsS,go_sem,recoverD,I,Tryz.ntmps73,Exit.thenS,H];refine wpS_cond (t:=true) (by simp [Act.eval,Array.replicate]) ?_;simp only [if_true];apply wpS_region;simp [wpOpsS,go_sem,q,r,s,u,y,z,A,B,C,D,E,bodyPostS,results,Tryz.results73];obtain ⟨b,k⟩:=qB (((((((((w.setCell ⟨a,0,none⟩ (zI 0)).setCell ⟨a,1,none⟩ (zI 0)).setCell ⟨a,2,none⟩ (zI 0)).setCell ⟨a,3,none⟩ (zI 0)).setCell ⟨a,4,none⟩ (zI 0)).setCell ⟨a,5,none⟩ (zI 0)).setCell ⟨a,6,none⟩ zN).setCell ⟨a,7,none⟩ zN));have G:But [a,a+1] w b:=by
  rw [k];have m:a∈[a,a+1]:=by simp
  exact (((((((But.set (p:=(zA a 0)) m _).trans (But.set (p:=(zA a 1)) m _)).trans (But.set (p:=(zA a 2)) m _)).trans (But.set (p:=(zA a 3)) m _)).trans (But.set (p:=(zA a 4)) m _)).trans (But.set (p:=(zA a 5)) m _)).trans (But.set (p:=(zA a 6)) m _)).trans (But.set (p:=(zA a 7)) m _)
 rw [<-k] at l n ⊢;have F:b.heap[a+1]?=some (.cells #[.bool x] 4 (0,0)):=(n (a+1) (by omega)).trans f;exact ⟨(heap_setCell_other b (zA (a+1) 0) a _ (by simp)).trans l,heap_setCell_same b (a+1) 0 _ _ (.bool false) F,G.trans (But.set (p:=(zA (a+1) 0)) (by simp) _)⟩
def pN (t:ByteArray) (k:Nat):Nat:=(byt t (k+6)).toNat
def pA (t:ByteArray) (k:Nat):Nat:=k+7+2*pN t k
def cN (t:ByteArray) (k:Nat):Nat:=(byt t (pA t k)).toNat
def xx (t:ByteArray) (k:Nat):Nat:=pA t k+1+2*cN t k
def whole (t:ByteArray) (k:Nat):Prop:=k+6<t.size/\byt t (k+6)<=3/\pA t k<t.size/\byt t (pA t k)<=48/\xx t k<=t.size
instance (t:ByteArray) (k:Nat):Decidable (whole t k):=by unfold whole;infer_instance
theorem But.newSet {ks:List Nat} {w w':World} (h:But ks w w') {p:Addr} (b:w.heap.size<=p.block) (v:Value):But ks w (w'.setCell p v) :=
 ⟨h.os,h.tape,h.output,by have:=h.size;simp only [World.setCell,Array.size_modify];omega,fun k a hn=>by rw [heap_setCell_other w' p k _ (by omega)];exact h.block k a hn⟩
theorem But.grow {ks:List Nat} {w w' c:World} (h:But ks w w') {b:List Nat} (d:∀ j∈b,w.heap.size<=j) (a:But b w' c):But ks w c :=
 ⟨a.os.trans h.os,a.tape.trans h.tape,a.output.trans h.output,Nat.le_trans h.size a.size,fun k f hn=>by
  have:=h.size;rw [a.block k (by omega) (fun e=>by have:=d k e;omega)];exact h.block k f hn⟩
theorem T5 {tmps:Array Value} (w:World) (a:Nat) (b c1 c2 c3 c4 c5 c d:Value) (x:Bool) (h:tmps.getD 2 undef=.pointer (zO a 0)) (i:tmps.getD 3 undef=.pointer (zO (a+1) 0)) (j:wj w a b c1 c2 c3 c4 c5 c d) (k:w.heap[a+1]?=some (.cells #[.bool x] 4 (0,0))) :
 (results Tryz.f34 tmps).run Tryz.prog w=.ok (.tuple #[.agg #[b,c1,c2,c3,c4,c5,c,d],.bool x]) w:=by
 have f:tmps[2]?.getD undef=.pointer (zO a 0):=by simpa using h
 have g:tmps[3]?.getD undef=.pointer (zO (a+1) 0):=by simpa using i
 have l:=run_loadVar_row (P:=Tryz.prog) w a 27 27 #[b,c1,c2,c3,c4,c5,c,d] (0,0) _ j Tryz.underlying27 rfl (by kernel_rfl);have e:w.cell? (zA (a+1) 0)=some (.bool x):=by rw [cell_of_row w (a+1) 0 _ _ _ k];rfl
 have m:(loadVar 4 (zA (a+1) 0)).run Tryz.prog w=.ok (.bool x) w:=by
  simp [loadVar,isAgg,run_underlying Tryz.underlying4,go_sem,e]
 simp [results,Tryz.results34,f,g,asAddr,l,m,Result.andThen]
theorem U6 (w:World) (o:Obj):(w.alloc o).heap.size=w.heap.size+1:=World.size_alloc w o
structure As (w W:World) (S R:Nat) (v:Value) (c0 c1 c2 c3 c4 c5 c6 c7:Value):Prop where
 box:wj W S c0 c1 c2 c3 c4 c5 c6 c7
 is:W.heap[S+1]?=some (.cells #[.bool false] 4 (0,0))
 but:But [R] w W
 told:Zx W v
theorem As.call {w d f:World} {S b:Nat} {v g c1 c2 c3 c4 c5 h i:Value} (a:As w d S b v g c1 c2 c3 c4 c5 h i) (c:But [b] d f) (j:0<b) (k:b<S):As w f S b v g c1 c2 c3 c4 c5 h i:=by
 have l:S+1<d.heap.size:=(Array.getElem?_eq_some_iff.1 a.is).1;refine ⟨(c.block S (by omega) (fun e=>by have:=List.mem_singleton.1 e;omega)).trans a.box,(c.block (S+1) (by omega) (fun e=>by have:=List.mem_singleton.1 e;omega)).trans a.is,a.but.trans c,a.told.but j c⟩
theorem As.set {w b:World} {S c:Nat} {v e c1 c2 c3 c4 c5 f g:Value} (a:As w b S c v e c1 c2 c3 c4 c5 f g) (j:w.heap.size=S) (k:0<S) (i:Nat) (x:Value) (d:Array Value) (h:#[e,c1,c2,c3,c4,c5,f,g].setIfInBounds i x=d) :
 (b.setCell (zA S i) x).heap[S]?=some (.cells d 27 (0,0))/\(b.setCell (zA S i) x).heap[S+1]?=some (.cells #[.bool false] 4 (0,0))/\But [c] w (b.setCell (zA S i) x)/\Zx (b.setCell (zA S i) x) v:=by
 subst h;refine ⟨heap_setCell_same b S i _ _ x a.box,(heap_setCell_other b (zA S i) (S+1) _ (by simp)).trans a.is,a.but.newSet (by show w.heap.size<=S;omega) x,?_,a.told.2⟩;rw [World.cell?_of_block (w:=b) (heap_setCell_other b (zA S i) 0 _ (by show 0≠S;omega))];exact a.told.1
theorem wO (w b:World) (S d:Nat) (v g c1 c2 c3 c4 c5 h i:Value) (a:As w b S d v g c1 c2 c3 c4 c5 h i) (s:w.heap.size=S) (tmps:Array Value) (k:tmps.getD 2 undef=.pointer (zO S 0)) (l:tmps.getD 3 undef=.pointer (zO (S+1) 0)) (c:Ending->World->Prop)
 (q:∀ w',But [d] w w'->c (.returned (.tuple #[.agg #[zI 0,zI 0,zI 0,zI 0,zI 0,zI 0,zN,zN],.bool false])) w') :
 Leaves Tryz.prog Tryz.f34 tmps c [{ target:=.fn (.func 73) #[.pointer (zO S 0),.pointer (zO (S+1) 0)],args:=#[] }] (.panicking [{ v:=v,recovered:=false }]) b:=by
 obtain ⟨T,u,rfl⟩:=a.told.2;refine leaves_cons (f:=73) (args:=#[.pointer (zO S 0),.pointer (zO (S+1) 0)]) (by simp) (by simp [go_sem]) ?_;refine (Sj S T u [] b g c1 c2 c3 c4 c5 h i false a.box a.is).mono ?_;rintro e t w' ⟨rfl,rfl,m,n,o⟩;have r:=T5 (tmps:=tmps) w' S _ _ _ _ _ _ _ _ _ k l m n;simp only [settle];exact ⟨_,r,q w' (a.but.grow (fun j p=>by
  simp only [List.mem_cons,List.not_mem_nil,or_false] at p;omega) o)⟩
theorem MA (a:World) (S:Nat) (c c1 c2 c3 c4 c5 d g:Value) (j:wj a S c c1 c2 c3 c4 c5 d g) (k:a.heap[S+1]?=some (.cells #[.bool true] 4 (0,0))) (tmps:Array Value) (h:tmps.getD 2 undef=.pointer (zO S 0)) (i:tmps.getD 3 undef=.pointer (zO (S+1) 0)) (b:Ending->World->Prop)
 (l:b (.returned (.tuple #[.agg #[c,c1,c2,c3,c4,c5,d,g],.bool true])) a) :
 Leaves Tryz.prog Tryz.f34 tmps b [{ target:=.fn (.func 73) #[.pointer (zO S 0),.pointer (zO (S+1) 0)],args:=#[] }] .returning a:=by
 refine leaves_cons (f:=73) (args:=#[.pointer (zO S 0),.pointer (zO (S+1) 0)]) (by simp) (by simp [go_sem]) ?_;refine (MI _ _ a).mono ?_;rintro e m w' ⟨rfl,rfl,rfl⟩;exact ⟨_,T5 (tmps:=tmps) w' S _ _ _ _ _ _ _ _ _ h i j k,l⟩
theorem RunsIn.but {w w':World} {d:Nat} {a:Option Addr} {n f:Nat} {l:zd} (h:RunsIn w a n f l) (j:But [d] w w') (i:∀ b c,a=zO b c->b≠d):RunsIn w' a n f l :=
 h.of_away fun k b c e=>j.block b (h.lt k e) (fun g=>i b c e (List.mem_singleton.1 g))
theorem Hz (w:World) (d:Nat) (t:ByteArray) (k:Nat) (h:Rd w d t k) (ad:t.size<=4096) (v:Value) (a7:Zx w v) (A:0<d) (bK:k<=t.size) :
 zC 34 #[.pointer (zO d 0)] w fun e w' =>
  (whole t k/\∃ I Y H X,e=.returned (.tuple #[.agg #[zI (byt t k),zI (byt t (k+1)),zI (byt t (k+2)),zI (byt t (k+3)),zI (byt t (k+4)),zI (byt t (k+5)),.slice I (pN t k) Y,.slice H (cN t k) X],.bool true]) /\
   RunsIn w' I (pN t k) Y (Ye t (k+7) (pN t k))/\RunsIn w' H (cN t k) X (Ye t (pA t k+1) (cN t k)) /\
   (∀ b x,I=zO b x->w.heap.size<=b)/\(∀ b x,H=zO b x->w.heap.size<=b)/\Rd w' d t (xx t k)/\But [d] w w') \/
  (¬whole t k/\e=.returned (.tuple #[.agg #[zI 0,zI 0,zI 0,zI 0,zI 0,zI 0,zN,zN],.bool false])/\But [d] w w'):=by
 obtain ⟨S,aK⟩:=qA (w.heap.size);have G:=zh aK;have F:d<S:=by rw [<-aK];exact (Array.getElem?_eq_some_iff.1 h).1
 have ba:=zh h;have a1:=zh a7;clear h a7;go_enter_defers Tryz.func34,Tryz.ntmps34
 go_wp2_with fail
 obtain ⟨W0,aC⟩:=qB (((w.alloc (.cells #[zI 0,zI 0,zI 0,zI 0,zI 0,zI 0,zN,zN] 27)).alloc (.cells #[.bool false] 4)));rw [<-aC];have aU:(w.alloc (.cells #[zI 0,zI 0,zI 0,zI 0,zI 0,zI 0,zN,zN] 27)).heap.size=S+1:=by rw [U6,aK]
 have aL:zL w W0:=by rw [aC];exact (zr _ _).alloc (by rw [U6];omega) _
 have f:As w W0 S d v (zI 0) (zI 0) (zI 0) (zI 0) (zI 0) (zI 0) zN zN:=by
  refine ⟨?_,?_,But.below aL,?_,a1.o.2⟩
  ·rw [aC];show _=some _;rw [Below.heap_alloc _ _ S (by rw [aU];omega),<-aK];exact heap_alloc_new w _
  ·rw [aC,<-aU];exact heap_alloc_new _ _
  rw [World.cell?_of_block (w:=w) (aL.block 0 (by omega))];exact a1.o.1
 have i:Rd W0 d t k:=ba.o.later aL;clear aC aU aL;refine (xO W0 d t k i ad v f.told).mono ?_;rintro e ar (⟨bs,rfl,u,a⟩ | ⟨bs,rfl,a⟩)
 rotate_left
 ·have c:=zh (f.call a A F);clear f i a;go_wp2;exact wO w ar S d v _ _ _ _ _ _ _ _ c.o G.o _ rfl rfl _ (fun w' a=>Or.inr ⟨fun E=>by have:=E.1;omega,rfl,a⟩)
 have c:=f.call a A F;obtain ⟨J,L,M,N,O,Q,R,U⟩:=c.box.cells;have V:∀ m,ar.frozen? (zA S m)=false:=fun m=>frozen_of_row ar S m _ _ c.box;obtain ⟨aj,D⟩:∃ y,byt t k=y:=⟨_,rfl⟩;rw [D];have bb:=zh D;have z:=zh c;have B:=zh u;clear f i a u c D;go_wp2_with fail
 obtain ⟨n,g,r,s⟩:=z.o.set G.o (by omega) 0 (zI aj) _ rfl;have l:Rd (ar.setCell (zA S 0) (zI aj)) d t (k+1):=(heap_setCell_other ar (zA S 0) d _ (by show d≠S;omega)).trans B.o;clear J L M N O Q R U V z B;obtain ⟨bj,C⟩:=qB (ar.setCell ⟨S,0,none⟩ (zI aj));rw [<-C] at n g r s l ⊢;clear C;have f:=As.mk n g r s;have i:=l;clear n g r s l;refine (xO bj d t (k+1) i ad v f.told).mono ?_;rintro e au (⟨bt,rfl,u,a⟩ | ⟨bt,rfl,a⟩)
 rotate_left
 ·have c:=zh (f.call a A F);clear f i a;go_wp2;exact wO w au S d v _ _ _ _ _ _ _ _ c.o G.o _ rfl rfl _ (fun w' a=>Or.inr ⟨fun E=>by have:=E.1;omega,rfl,a⟩)
 have c:=f.call a A F;obtain ⟨J,L,M,N,O,Q,R,U⟩:=c.box.cells;have V:∀ m,au.frozen? (zA S m)=false:=fun m=>frozen_of_row au S m _ _ c.box;obtain ⟨ak,D⟩:∃ y,byt t (k+1)=y:=⟨_,rfl⟩;rw [D];have bc:=zh D;have z:=zh c;have B:=zh u;clear f i a u c D;go_wp2_with fail
 obtain ⟨n,g,r,s⟩:=z.o.set G.o (by omega) 1 (zI ak) _ rfl;have l:Rd (au.setCell (zA S 1) (zI ak)) d t (k+2):=(heap_setCell_other au (zA S 1) d _ (by show d≠S;omega)).trans B.o;clear J L M N O Q R U V z B;obtain ⟨bl,C⟩:=qB (au.setCell ⟨S,1,none⟩ (zI ak));rw [<-C] at n g r s l ⊢;clear C;have f:=As.mk n g r s;have i:=l;clear n g r s l;refine (xO bl d t (k+2) i ad v f.told).mono ?_;rintro e av (⟨bu,rfl,u,a⟩ | ⟨bu,rfl,a⟩)
 rotate_left
 ·have c:=zh (f.call a A F);clear f i a;go_wp2;exact wO w av S d v _ _ _ _ _ _ _ _ c.o G.o _ rfl rfl _ (fun w' a=>Or.inr ⟨fun E=>by have:=E.1;omega,rfl,a⟩)
 have c:=f.call a A F;obtain ⟨J,L,M,N,O,Q,R,U⟩:=c.box.cells;have V:∀ m,av.frozen? (zA S m)=false:=fun m=>frozen_of_row av S m _ _ c.box;obtain ⟨al,D⟩:∃ y,byt t (k+2)=y:=⟨_,rfl⟩;rw [D];have bd:=zh D;have z:=zh c;have B:=zh u;clear f i a u c D;go_wp2_with fail
 obtain ⟨n,g,r,s⟩:=z.o.set G.o (by omega) 2 (zI al) _ rfl;have l:Rd (av.setCell (zA S 2) (zI al)) d t (k+3):=(heap_setCell_other av (zA S 2) d _ (by show d≠S;omega)).trans B.o;clear J L M N O Q R U V z B;obtain ⟨bm,C⟩:=qB (av.setCell ⟨S,2,none⟩ (zI al));rw [<-C] at n g r s l ⊢;clear C;have f:=As.mk n g r s;have i:=l;clear n g r s l;refine (xO bm d t (k+3) i ad v f.told).mono ?_;rintro e aw (⟨bv,rfl,u,a⟩ | ⟨bv,rfl,a⟩)
 rotate_left
 ·have c:=zh (f.call a A F);clear f i a;go_wp2;exact wO w aw S d v _ _ _ _ _ _ _ _ c.o G.o _ rfl rfl _ (fun w' a=>Or.inr ⟨fun E=>by have:=E.1;omega,rfl,a⟩)
 have c:=f.call a A F;obtain ⟨J,L,M,N,O,Q,R,U⟩:=c.box.cells;have V:∀ m,aw.frozen? (zA S m)=false:=fun m=>frozen_of_row aw S m _ _ c.box;obtain ⟨am,D⟩:∃ y,byt t (k+3)=y:=⟨_,rfl⟩;rw [D];have be:=zh D;have z:=zh c;have B:=zh u;clear f i a u c D;go_wp2_with fail
 obtain ⟨n,g,r,s⟩:=z.o.set G.o (by omega) 3 (zI am) _ rfl;have l:Rd (aw.setCell (zA S 3) (zI am)) d t (k+4):=(heap_setCell_other aw (zA S 3) d _ (by show d≠S;omega)).trans B.o;clear J L M N O Q R U V z B;obtain ⟨bn,C⟩:=qB (aw.setCell ⟨S,3,none⟩ (zI am));rw [<-C] at n g r s l ⊢;clear C;have f:=As.mk n g r s;have i:=l;clear n g r s l;refine (xO bn d t (k+4) i ad v f.told).mono ?_;rintro e ax (⟨bw,rfl,u,a⟩ | ⟨bw,rfl,a⟩)
 rotate_left
 ·have c:=zh (f.call a A F);clear f i a;go_wp2;exact wO w ax S d v _ _ _ _ _ _ _ _ c.o G.o _ rfl rfl _ (fun w' a=>Or.inr ⟨fun E=>by have:=E.1;omega,rfl,a⟩)
 have c:=f.call a A F;obtain ⟨J,L,M,N,O,Q,R,U⟩:=c.box.cells;have V:∀ m,ax.frozen? (zA S m)=false:=fun m=>frozen_of_row ax S m _ _ c.box;obtain ⟨an,D⟩:∃ y,byt t (k+4)=y:=⟨_,rfl⟩;rw [D];have bf:=zh D;have z:=zh c;have B:=zh u;clear f i a u c D;go_wp2_with fail
 obtain ⟨n,g,r,s⟩:=z.o.set G.o (by omega) 4 (zI an) _ rfl;have l:Rd (ax.setCell (zA S 4) (zI an)) d t (k+5):=(heap_setCell_other ax (zA S 4) d _ (by show d≠S;omega)).trans B.o;clear J L M N O Q R U V z B;obtain ⟨bo,C⟩:=qB (ax.setCell ⟨S,4,none⟩ (zI an));rw [<-C] at n g r s l ⊢;clear C;have f:=As.mk n g r s;have i:=l;clear n g r s l;refine (xO bo d t (k+5) i ad v f.told).mono ?_;rintro e ay (⟨bx,rfl,u,a⟩ | ⟨bx,rfl,a⟩)
 rotate_left
 ·have c:=zh (f.call a A F);clear f i a;go_wp2;exact wO w ay S d v _ _ _ _ _ _ _ _ c.o G.o _ rfl rfl _ (fun w' a=>Or.inr ⟨fun E=>by have:=E.1;omega,rfl,a⟩)
 have c:=f.call a A F;obtain ⟨J,L,M,N,O,Q,R,U⟩:=c.box.cells;have V:∀ m,ay.frozen? (zA S m)=false:=fun m=>frozen_of_row ay S m _ _ c.box;obtain ⟨ao,D⟩:∃ y,byt t (k+5)=y:=⟨_,rfl⟩;rw [D];have bg:=zh D;have z:=zh c;have B:=zh u;clear f i a u c D;go_wp2_with fail
 obtain ⟨n,g,r,s⟩:=z.o.set G.o (by omega) 5 (zI ao) _ rfl;have l:Rd (ay.setCell (zA S 5) (zI ao)) d t (k+6):=(heap_setCell_other ay (zA S 5) d _ (by show d≠S;omega)).trans B.o;clear J L M N O Q R U V z B;obtain ⟨bp,C⟩:=qB (ay.setCell ⟨S,5,none⟩ (zI ao));rw [<-C] at n g r s l ⊢;clear C;have f:=As.mk n g r s;have i:=l;clear n g r s l;obtain ⟨p,aS⟩:=qA (pN t k);have a4:byt t (k+6)=((p:Nat):Int):=by have:=Wb t (k+6);rw [<-aS];unfold pN;omega
 have aG:=zh aS;have aZ:=zh a4;clear aS a4;refine (QZ bp d t (k+6) i ad v f.told A 3).mono ?_;rintro e aX (⟨aR,bB,rfl,u,a⟩ | ⟨aR,rfl,a⟩)
 rotate_left
 ·have c:=zh (f.call a A F);have aO:=zh aR;clear f i a aR;go_wp2;exact wO w aX S d v _ _ _ _ _ _ _ _ c.o G.o _ rfl rfl _ (fun w' a=>Or.inr ⟨fun E=>aO.o ⟨E.1,E.2.1⟩,rfl,a⟩)
 rw [aZ.o] at bB ⊢;have bL:p<=3:=by omega
 have c:=f.call a A F;have ah:=zh (Sg aX d t (k+7) p u ad v c.told A (by omega) (by omega));have z:=zh c;clear f i a u c;go_wp2_with fail
 refine ah.o.mono ?_;rintro e ai (⟨bz,I,Y,rfl,aF,aE,u,a⟩ | ⟨bz,rfl,a⟩)
 rotate_left
 ·have c:=zh (z.o.call a A F);clear a ah;go_wp2;exact wO w ai S d v _ _ _ _ _ _ _ _ c.o G.o _ rfl rfl _ (fun w' a=>Or.inr ⟨fun E=>by
   have ab:=E.2.2.1;unfold pA at ab;rw [aG.o] at ab;omega,rfl,a⟩)
 have hs0:S+1<aX.heap.size:=(Array.getElem?_eq_some_iff.1 z.o.is).1;have aD:∀ b x,I=zO b x->S+2<=b:=fun b x e=>by have:=aE b x e;omega
 have c:=z.o.call a A F;obtain ⟨J,L,M,N,O,Q,R,U⟩:=c.box.cells;have V:∀ m,ai.frozen? (zA S m)=false:=fun m=>frozen_of_row ai S m _ _ c.box;have az:=zh c;have B:=zh u;have aA:=zh aF;have ap:=zh aD;clear a u c aF aD aE hs0 z ah;go_wp2_with fail
 obtain ⟨n,g,r,s⟩:=az.o.set G.o (by omega) 6 (.slice I p Y) _ rfl;have l:Rd (ai.setCell (zA S 6) (.slice I p Y)) d t (k+7+2*p):=(heap_setCell_other ai (zA S 6) d _ (by show d≠S;omega)).trans B.o;have ae:RunsIn (ai.setCell (zA S 6) (.slice I p Y)) I p Y (Ye t (k+7) p):=aA.o.set_away (zA S 6) _ (fun _ b x e=>by have:=ap.o b x e;show b≠S;omega);clear J L M N O Q R U V az B aA;obtain ⟨bq,C⟩:=qB (ai.setCell ⟨S,6,none⟩ (.slice I p Y));rw [<-C] at n g r s l ae ⊢;clear C;have f:=As.mk n g r s;have i:=l;clear n g r s l;obtain ⟨P,aJ⟩:=qA (k+7+2*p);rw [aJ] at i;have aQ:pA t k=P:=by unfold pA;rw [aG.o];exact aJ
 obtain ⟨q,aT⟩:=qA (cN t k);have a5:byt t P=((q:Nat):Int):=by have:=Wb t P;rw [<-aT];unfold cN;rw [aQ];omega
 have ag:=zh aQ;have aB:=zh aT;have a0:=zh a5;have bG:=zh aJ;have bJ:P<=t.size:=by omega
 clear aQ aT a5 aJ;refine (QZ bq d t P i ad v f.told A 48).mono ?_;rintro e aY (⟨aM,bC,rfl,u,a⟩ | ⟨aM,rfl,a⟩)
 rotate_left
 ·have c:=zh (f.call a A F);have aO:=zh aM;clear f i a aM ae;go_wp2;exact wO w aY S d v _ _ _ _ _ _ _ _ c.o G.o _ rfl rfl _ (fun w' a=>Or.inr ⟨fun E=>aO.o (by
   have ab:=E.2.2.1;have aI:=E.2.2.2.1;rw [ag.o] at ab aI;exact ⟨ab,aI⟩),rfl,a⟩)
 rw [a0.o] at bC ⊢;have bM:q<=48:=by omega
 have c:=f.call a A F;have aq:=ae.but a (fun b x e=>by have:=ap.o b x e;omega);have ah:=zh (Qp aY d t (P+1) q u ad v c.told A (by omega) (by omega));have z:=zh c;have aH:=zh aq;clear f i a u c ae aq;go_wp2_with fail
 refine ah.o.mono ?_;rintro e af (⟨bA,H,X,rfl,aF,aE,u,a⟩ | ⟨bA,rfl,a⟩)
 rotate_left
 ·have c:=zh (z.o.call a A F);clear a ah;go_wp2;exact wO w af S d v _ _ _ _ _ _ _ _ c.o G.o _ rfl rfl _ (fun w' a=>Or.inr ⟨fun E=>by
   have ab:=E.2.2.2.2;unfold xx at ab;rw [ag.o,aB.o] at ab;omega,rfl,a⟩)
 have hs0:S+1<aY.heap.size:=(Array.getElem?_eq_some_iff.1 z.o.is).1;have aD:∀ b x,H=zO b x->S+2<=b:=fun b x e=>by have:=aE b x e;omega
 have c:=z.o.call a A F;have a8:=aH.o.but a (fun b x e=>by have:=ap.o b x e;omega);obtain ⟨J,L,M,N,O,Q,R,U⟩:=c.box.cells;have V:∀ m,af.frozen? (zA S m)=false:=fun m=>frozen_of_row af S m _ _ c.box;have az:=zh c;have B:=zh u;have aA:=zh aF;have a2:=zh a8;have aP:=zh aD;clear a u c aF aD aE hs0 z ah aH a8;go_upto_region 10 with fail
 obtain ⟨n,g,r,s⟩:=az.o.set G.o (by omega) 7 (.slice H q X) _ rfl;have l:Rd (af.setCell (zA S 7) (.slice H q X)) d t (P+1+2*q):=(heap_setCell_other af (zA S 7) d _ (by show d≠S;omega)).trans B.o;have ae:RunsIn (af.setCell (zA S 7) (.slice H q X)) I p Y (Ye t (k+7) p):=a2.o.set_away (zA S 7) _ (fun _ b x e=>by have:=ap.o b x e;show b≠S;omega);have aq:RunsIn (af.setCell (zA S 7) (.slice H q X)) H q X (Ye t (P+1) q):=aA.o.set_away (zA S 7) _ (fun _ b x e=>by have:=aP.o b x e;show b≠S;omega);clear J L M N O Q R U V az B aA a2;obtain ⟨Z,C⟩:=qB (af.setCell ⟨S,7,none⟩ (.slice H q X));rw [<-C] at n g r s l ae aq ⊢;clear C;have f:=As.mk n g r s;obtain ⟨J,L,M,N,O,Q,R,U⟩:=f.box.cells;have V:∀ m,Z.frozen? (zA S m)=false:=fun m=>frozen_of_row Z S m _ _ f.box;have bH:Z.cell? (zA (S+1) 0)=some (.bool false):=by rw [cell_of_row Z (S+1) 0 _ _ _ g];rfl
 have bI:Z.frozen? (zA (S+1) 0)=false:=frozen_of_row Z (S+1) 0 _ _ g;have aN:=zh f;have bh:=zh l;have bi:=zh ae;have aH:=zh aq;clear n g r s l ae aq f;go_wp2_with fail
 obtain ⟨a9,aW⟩:=x8 Z S _ _ _ _ _ _ _ _ (zI aj) (zI ak) (zI al) (zI am) (zI an) (zI ao) (.slice I p Y) (.slice H q X) aN.o.box;have a3:But [d] w ((((((((Z.setCell (zA S 0) (zI aj)).setCell (zA S 1) (zI ak)).setCell (zA S 2) (zI al)).setCell (zA S 3) (zI am)).setCell (zA S 4) (zI an)).setCell (zA S 5) (zI ao)).setCell (zA S 6) (.slice I p Y)).setCell (zA S 7) (.slice H q X)):=((((((((aN.o.but.newSet (p:=(zA S 0)) (by show w.heap.size<=S;omega) _).newSet (p:=(zA S 1)) (by show w.heap.size<=S;omega) _).newSet (p:=(zA S 2)) (by show w.heap.size<=S;omega) _).newSet (p:=(zA S 3)) (by show w.heap.size<=S;omega) _).newSet (p:=(zA S 4)) (by show w.heap.size<=S;omega) _).newSet (p:=(zA S 5)) (by show w.heap.size<=S;omega) _).newSet (p:=(zA S 6)) (by show w.heap.size<=S;omega) _).newSet (p:=(zA S 7)) (by show w.heap.size<=S;omega) _);obtain ⟨aa,a6⟩:=qB (((((((((Z.setCell ⟨S,0,none⟩ (zI aj)).setCell ⟨S,1,none⟩ (zI ak)).setCell ⟨S,2,none⟩ (zI al)).setCell ⟨S,3,none⟩ (zI am)).setCell ⟨S,4,none⟩ (zI an)).setCell ⟨S,5,none⟩ (zI ao)).setCell ⟨S,6,none⟩ (.slice I p Y)).setCell ⟨S,7,none⟩ (.slice H q X)));rw [<-a6] at a9 aW a3 ⊢;clear a6;have bE:aa.heap[S+1]?=some (.cells #[.bool false] 4 (0,0)):=(aW (S+1) (by omega)).trans aN.o.is;have bD:(aa.setCell (zA (S+1) 0) (.bool true)).heap[S+1]?=some (.cells #[.bool true] 4 (0,0)):=heap_setCell_same aa (S+1) 0 _ _ (.bool true) bE;have bF:wj (aa.setCell (zA (S+1) 0) (.bool true)) S (zI aj) (zI ak) (zI al) (zI am) (zI an) (zI ao) (.slice I p Y) (.slice H q X):=(heap_setCell_other aa (zA (S+1) 0) S _ (by simp)).trans a9;have aV:∀ j,j≠S->j≠S+1->(aa.setCell (zA (S+1) 0) (.bool true)).heap[j]?=Z.heap[j]?:=fun j ab aI=>(heap_setCell_other aa (zA (S+1) 0) j _ aI).trans (aW j ab);have br:But [d] w (aa.setCell (zA (S+1) 0) (.bool true)):=a3.newSet (p:=(zA (S+1) 0)) (by show w.heap.size<=S+1;omega) _;refine MA _ S _ _ _ _ _ _ _ _ bF bD _ rfl rfl _ (Or.inl ⟨⟨by omega,?_,?_,?_,?_⟩,I,Y,H,X,?_,?_,?_,?_,?_,?_,br⟩)
 ·rw [aZ.o];omega
 ·rw [ag.o];exact aM
 ·rw [ag.o,a0.o];omega
 ·unfold xx;rw [ag.o,aB.o];omega
 ·rw [bb.o,bc.o,bd.o,be.o,bf.o,bg.o,aG.o,aB.o]
 ·rw [aG.o];exact bi.o.of_blocks fun b x e=>by have:=ap.o b x e;exact aV b (by omega) (by omega)
 ·rw [aB.o,ag.o];exact aH.o.of_blocks fun b x e=>by have:=aP.o b x e;exact aV b (by omega) (by omega)
 ·intro b x e;have:=ap.o b x e;omega
 ·intro b x e;have:=aP.o b x e;omega
 ·unfold xx;rw [ag.o,aB.o];exact (aV d (by omega) (by omega)).trans bh.o
def xW (x:Ac):List Value:=[zI x.kind,zI x.n,zI x.rq.queue,zI x.rq.fr,zI x.rq.un,zI x.rq.kind,.slice x.rq.pa x.rq.pn x.rq.pc,.slice x.ca x.cn x.cc]
def YB:List Ac->List Value
 | []=>[]
 | x::l=>xW x++YB l
theorem Mz (l:List Ac) (x:Ac):YB (l++[x])=YB l++xW x:=by
 induction l with
 | nil=>simp [YB]
 | cons y l ih=>simp [YB,ih]
structure AcAt (t:ByteArray) (k:Nat) (x:Ac):Prop where
 kind:x.kind=byt t k
 n:x.n=byt t (k+1)
 queue:x.rq.queue=byt t (k+2)
 fr:x.rq.fr=byt t (k+3)
 un:x.rq.un=byt t (k+4)
 rkind:x.rq.kind=byt t (k+5)
 ps:x.rq.ps=Ye t (k+7) (pN t k)
 cs:x.cs=Ye t (pA t k+1) (cN t k)
def Zr (t:ByteArray):Nat->List Ac->Nat->Prop
 | k,[],m=>m=k
 | k,x::l,m=>whole t k/\AcAt t k x/\Zr t (xx t k) l m
theorem Zr.snoc {t:ByteArray} {k m:Nat} {l:List Ac} (h:Zr t k l m) {x:Ac} (a:whole t m) (b:AcAt t m x):Zr t k (l++[x]) (xx t m):=by
 induction l generalizing k with
 | nil =>
  obtain rfl:m=k:=h;exact ⟨a,b,rfl⟩
 | cons y l ih=>exact ⟨h.1,h.2.1,ih h.2.2⟩
theorem Zr.le {t:ByteArray} {k m:Nat} {l:List Ac} (h:Zr t k l m) (a:k<=t.size):m<=t.size:=by
 induction l generalizing k with
 | nil =>
  obtain rfl:m=k:=h;exact a
 | cons y l ih=>exact ih h.2.2 h.1.2.2.2.2
def wX (B:Nat) (x:Ac) (v:Value):Prop:=(0<x.rq.pn->∀ b off,x.rq.pa=zO b off->B<=b/\v.ownBlock≠some b)/\(0<x.cn->∀ b off,x.ca=zO b off->B<=b/\v.ownBlock≠some b)
theorem wX.mono {B d:Nat} {x:Ac} {v:Value} (h:wX B x v) (f:d<=B):wX d x v:=⟨fun a b c e=>⟨Nat.le_trans f (h.1 a b c e).1,(h.1 a b c e).2⟩,fun a b c e=>⟨Nat.le_trans f (h.2 a b c e).1,(h.2 a b c e).2⟩⟩
theorem wl.of_blocks {w w':World} {x:Ac} (h:wl w x) (c:0<x.rq.pn->∀ b a,x.rq.pa=zO b a->w'.heap[b]?=w.heap[b]?) (d:0<x.cn->∀ b a,x.ca=zO b a->w'.heap[b]?=w.heap[b]?):wl w' x:=⟨RunsIn.of_away h.1 c,h.2.of_away d⟩
theorem RT (w:World) (B:Nat) (v:Value) (l:List Ac) (h:w.ownsRow B 27 8 v l.length (YB l)) (x:Ac) (a:Nat) (s:w.heap[a]?=some (.cells (xW x).toArray 27 (0,0))) (A:l.length<=1000) (r:B<=w.heap.size) :
 ∃ g k w',(∀ c,(Builtin.append_ #[31,31] c #[v,.slice (zO a 0) 1 1]).run Tryz.prog w=.ok (.slice (zO g 0) (l.length+1) k) w')/\w'.ownsRow B 27 8 (.slice (zO g 0) (l.length+1) k) (l.length+1) (YB (l++[x]))/\w.grownBy w' v.ownBlock/\(v.ownBlock=some g\/g=w.heap.size):=by
 obtain ⟨y,t,e⟩:=Option.map_eq_some_iff.1 (show (Tryz.prog.info? 27).map (fun i=>(i.zero,i.size,i.bytes))=some (some (.agg #[zI 0,zI 0,zI 0,zI 0,zI 0,zI 0,zN,zN]),8,96) from by kernel_rfl);simp only [Prod.mk.injEq] at e;obtain ⟨d,f,m⟩:=e;obtain ⟨g,k,w',n,o,p,q,z⟩:=run_append_lies w 31 0 B 27 y _ 8 96 Tryz.underlying31 t d f m (by rfl) (by omega) v l.length _ h (zA a 0) 1 1 (xW x) (by simp [xW])
  (fun j u b=>by rw [Addr.add_lit,Nat.zero_add,cell_of_row w a j _ _ _ s];simpa using b) (fun u b=>by
   simp only [xW,List.mem_cons,List.not_mem_nil,or_false] at b;rcases b with rfl | rfl | rfl | rfl | rfl | rfl | rfl | rfl <;> rfl) (by omega) (by simp only [maxLen];omega) (by omega) r w.heap.size rfl
 exact ⟨g,k,w',fun c=>n,by rw [Mz];exact o,p,q⟩
theorem Xr {w:World} {B b z n:Nat} {u:Value} {d:List Value} (h:w.ownsRow B b z u n d):∃ a c,u=.slice a n c:=by
 rcases h.2 with ⟨rfl,rfl⟩ | ⟨g,e,f,rfl,_⟩
 ·exact ⟨_,_,rfl⟩
 exact ⟨_,_,rfl⟩
theorem Vi {w:World} {B C a z n:Nat} {u:Value} {b:List Value} (h:w.ownsRow B a z u n b) (i:C<=B):w.ownsRow C a z u n b:=by
 refine ⟨h.1,?_⟩;rcases h.2 with e | ⟨g,c,d,rfl,f,rest⟩
 ·exact .inl e
 exact .inr ⟨g,c,d,rfl,by omega,rest⟩
theorem wl.but {w w':World} {f:Nat} {x:Ac} {v:Value} (h:wl w x) (g:But [f] w w') (i:wX (f+1) x v):wl w' x :=
 h.of_blocks (fun a b d e=>g.block b (RunsIn.lt h.1 a e) (fun c=>by have:=(i.1 a b d e).1;have:=List.mem_singleton.1 c;omega)) (fun a b d e=>g.block b (h.2.lt a e) (fun c=>by have:=(i.2 a b d e).1;have:=List.mem_singleton.1 c;omega))
def J8 (w w':World) (e:Ending) (t:ByteArray):Prop:=Below w.heap.size w w' /\
 ((4096<t.size/\e=.returned (.tuple #[zN,zI 0,zI 2])) \/
  (t.size<=4096/\∃ (u:Value) (l:List Ac) (m:Nat),e=.returned (.tuple #[u,zI m,zI 0])/\w'.ownsRow w.heap.size 27 8 u l.length (YB l)/\(∀ x∈l,wl w' x/\wX w.heap.size x u)/\Zr t 0 l m/\l.length<=60/\(l.length=60\/¬whole t m)))
theorem Zx.below {w w':World} {v:Value} {S:Nat} (h:Zx w v) (a:w.heap.size=S) (b:Below S w w'):Zx w' v:=by
 refine ⟨?_,h.2⟩;rw [World.cell?_of_block (w:=w) (b.block 0 (by rw [<-a];exact block_lt_of_cell h.1))];exact h.1
theorem SR (w:World) (t:ByteArray) (v:Value) (ak:Zx w v) :
 zC 11 #[.string t] w fun e w'=>J8 w w' e t:=by
 obtain ⟨S,ap⟩:=qA (w.heap.size);have I:=zh ap;have aW:0<S:=by rw [<-ap];exact block_lt_of_cell ak.1
 have aS:=zh ak;clear ak;by_cases a3:4096<t.size
 ·have a4:(4096:Int)<t.size:=by omega
  go_enter Tryz.func11,Tryz.ntmps11;go_wp2;go_ret3
  exact ⟨Below.refl _ _,Or.inl ⟨a3,rfl⟩⟩
 have a4:¬(4096:Int)<t.size:=by omega
 go_enter Tryz.func11,Tryz.ntmps11;go_wp2_with fail
 go_loopg [6,7] 60 (fun aV (u p:Value) wr=>∃ (l:List Ac) (m:Nat),p=zI m/\l.length<=60/\aV=60-l.length/\wr.ownsRow (S+1) 27 8 u l.length (YB l)/\(∀ x∈l,wl wr x/\wX (S+1) x u)/\Zr t 0 l m/\Rd wr S t m/\Below S w wr)
 case atStart =>
  have aX:Below S w (w.alloc (.cells #[.string t,zI 0] 82)):=by rw [<-I.o];exact zr _ _
  refine ⟨[],0,rfl,by simp,by simp,World.ownsRow_nil _ _ _ _,by simp,rfl,?_,aX⟩;show _=some _;rw [<-I.o];exact heap_alloc_new w _
 case round =>
  obtain ⟨l,m,rfl,ay,rfl,P,W,O,Z,M⟩:=hrel;obtain ⟨a,c,a5⟩:=Xr P;subst a5;have aZ:m<=t.size:=O.le (Nat.zero_le _);by_cases a6:l.length<60
  ·have aY:(l.length:Int)<60:=(by omega);have aT:=zh (Hz wr S t m Z (by omega) v (aS.o.below I.o M) aW aZ);have D:=zh P;have A:=zh W;have Q:=zh O;have al:=zh Z;have r:=zh M;clear P W O Z M;go_wp2_with fail
   refine aT.o.mono ?_;rintro e q (⟨aa,aK,aL,am,an,rfl,aC,av,aE,ax,aF,z⟩ | ⟨aa,rfl,z⟩)
   ·obtain ⟨X,i⟩:∃ X:Ac,X=⟨byt t m,byt t (m+1),⟨byt t (m+2),byt t (m+3),byt t (m+4),byt t (m+5),aK,pN t m,aL,Ye t (m+7) (pN t m)⟩,am,cN t m,an,Ye t (pA t m+1) (cN t m)⟩:=⟨_,rfl⟩;have ag:wl q X:=(by rw [i];exact ⟨aC,av⟩);have aq:AcAt t m X:=(by rw [i];exact ⟨rfl,rfl,rfl,rfl,rfl,rfl,rfl,rfl⟩);have aD:∀ b d,X.rq.pa=zO b d->wr.heap.size<=b:=(by rw [i];exact aE);have aw:∀ b d,X.ca=zO b d->wr.heap.size<=b:=(by rw [i];exact ax);rw [show byt t m=X.kind by rw [i],show byt t (m+1)=X.n by rw [i],show byt t (m+2)=X.rq.queue by rw [i],show byt t (m+3)=X.rq.fr by rw [i],show byt t (m+4)=X.rq.un by rw [i],show byt t (m+5)=X.rq.kind by rw [i],show Value.slice aK (pN t m) aL=.slice X.rq.pa X.rq.pn X.rq.pc by rw [i],show Value.slice am (cN t m) an=.slice X.ca X.cn X.cc by rw [i]];clear i aC av aE ax;have aH:=r.o.size;have aI:=z.size;have aJ:S<wr.heap.size:=(Array.getElem?_eq_some_iff.1 al.o).1;obtain ⟨R,L⟩:=qB ((q.alloc (.cells #[zI X.kind,zI X.n,zI X.rq.queue,zI X.rq.fr,zI X.rq.un,zI X.rq.kind,.slice X.rq.pa X.rq.pn X.rq.pc,.slice X.ca X.cn X.cc] 27)).alloc (.cells #[zI X.kind,zI X.n,zI X.rq.queue,zI X.rq.fr,zI X.rq.un,zI X.rq.kind,.slice X.rq.pa X.rq.pn X.rq.pc,.slice X.ca X.cn X.cc] 27));have E:zL q R:=(by rw [L];exact (zr _ _).alloc (by simp) _);have a2:R.heap.size=q.heap.size+2:=(by rw [L];simp);have ao:R.heap[q.heap.size+1]?=some (.cells (xW X).toArray 27 (0,0)):=by
     have:=heap_alloc_new (q.alloc (.cells #[zI X.kind,zI X.n,zI X.rq.queue,zI X.rq.fr,zI X.rq.un,zI X.rq.kind,.slice X.rq.pa X.rq.pn X.rq.pc,.slice X.ca X.cn X.cc] 27)) (.cells #[zI X.kind,zI X.n,zI X.rq.queue,zI X.rq.fr,zI X.rq.un,zI X.rq.kind,.slice X.rq.pa X.rq.pn X.rq.pc,.slice X.ca X.cn X.cc] 27);rw [World.size_alloc] at this;rw [L];exact this
    have aG:=zT (VG D.o z (fun e=>by have:=(D.o.lt S e).1;omega)) E;have N:∀ y,(Value.slice a l.length c).ownBlock=some y->S+1<=y/\y<wr.heap.size:=fun y e=>D.o.lt y e;obtain ⟨g,k,H,aj,aB,B,af⟩:=RT R (S+1) (.slice a l.length c) l aG X (q.heap.size+1) ao (by omega) (by omega);have ai:Rd H S t (xx t m):=(B.block S (by omega) (fun e=>by have:=(N S e.symm).1;omega)).trans (aF.later E);have ah:∀ y:Ac,wl q y->wX (S+1) y (.slice a l.length c)->wl H y:=fun y f F=>(f.later E).of_blocks (fun h b d e=>B.block b (RunsIn.lt (f.later E).1 h e) (fun s=>(F.1 h b d e).2 s.symm)) (fun h b d e=>B.block b ((f.later E).2.lt h e) (fun s=>(F.2 h b d e).2 s.symm));have ad:wX (S+1) X (.slice a l.length c):=⟨fun _ b d e=>by have:=aD b d e;exact ⟨by omega,fun s=>by have:=(N b s).2;omega⟩,fun _ b d e=>by have:=aw b d e;exact ⟨by omega,fun s=>by have:=(N b s).2;omega⟩⟩;have ae:∀ y:Ac,wl q y->wX (S+1) y (.slice a l.length c)->wX (S+1) y (.slice (zO g 0) (l.length+1) k):=fun y f F=>⟨fun h b d e=>⟨(F.1 h b d e).1,fun s=>by
     have ab:g=b:=(by simpa [Value.ownBlock] using s);have U:=RunsIn.lt f.1 h e;rcases af with J | J
     ·exact (F.1 h b d e).2 (by rw [J,ab])
     ·omega⟩,fun h b d e=>⟨(F.2 h b d e).1,fun s=>by
     have ab:g=b:=(by simpa [Value.ownBlock] using s);have U:=f.2.lt h e;rcases af with J | J
     ·exact (F.2 h b d e).2 (by rw [J,ab])
     omega⟩⟩
    have aA:∀ y∈l++[X],wl H y/\wX (S+1) y (.slice (zO g 0) (l.length+1) k):=fun y f=>by
     rcases List.mem_append.1 f with f | f
     ·have U:=(A.o y f).1.but z (A.o y f).2;exact ⟨ah y U (A.o y f).2,ae y U (A.o y f).2⟩
     obtain rfl:=List.mem_singleton.1 f;exact ⟨ah _ ag ad,ae _ ag ad⟩
    have V:Below S w q:=⟨z.os.trans r.o.os,z.tape.trans r.o.tape,z.output.trans r.o.output,by omega,fun j Y=>by
     rw [z.block j (by omega) (fun e=>by have:=List.mem_singleton.1 e;omega)];exact r.o.block j Y⟩
    have au:Below S w H:=(V.trans (E.mono (by omega))).trans ⟨B.os,B.tape,B.output,B.size,fun j Y=>B.block j (by omega) (fun e=>by have:=(N j e.symm).1;omega)⟩;have a7:H.cell? (zA S 1)=some (zI (xx t m:Nat)):=(by rw [cell_of_row H S 1 _ _ _ ai];rfl);have aQ:=zh ai;have aO:=zh aA;have aM:=zh au;have aP:=zh aB;have aR:=zh (Q.o.snoc aa aq);rw [L] at aj;have a1:=aj 31;clear L E a2 ao aG N aj B af ai ah ad ae aA V au aB z aF ag aq aD aw aa aH aI aJ;go_wp2_with (at_builtin;refine Lib.wpList_append_run _ rfl _ _ _ _ rfl _ _ rfl rfl _ _ a1 ?_)
    go_roundg (60-(l.length+1))
    case rel=>exact ⟨l++[X],xx t m,rfl,by simp;omega,by simp,by simpa using aP.o,by simpa using aO.o,aR.o,aQ.o,aM.o⟩
    case measure=>simp;omega
   have C:=zh z;clear z;go_wp2;go_ret3
   have aH:=r.o.size;have aJ:S<wr.heap.size:=(Array.getElem?_eq_some_iff.1 al.o).1;have aI:=C.o.size;have ar:zL q (q.alloc (.cells #[zI 0,zI 0,zI 0,zI 0,zI 0,zI 0,zN,zN] 27)):=zr _ _;have a0:=zT (VG D.o C.o (fun e=>by have:=(D.o.lt S e).1;omega)) ar;have V:Below S w q:=⟨C.o.os.trans r.o.os,C.o.tape.trans r.o.tape,C.o.output.trans r.o.output,by omega,fun j Y=>by
    rw [C.o.block j (by omega) (fun e=>by have:=List.mem_singleton.1 e;omega)];exact r.o.block j Y⟩
   refine ⟨by rw [I.o];exact V.alloc (by omega) _,Or.inr ⟨by omega,_,l,m,rfl,Vi a0 (by omega),fun x G=>⟨((A.o x G).1.but C.o (A.o x G).2).later ar,wX.mono (A.o x G).2 (by omega)⟩,Q.o,ay,Or.inr aa⟩⟩
  obtain az:l.length=60:=by omega
  have D:=zh P;have A:=zh W;have Q:=zh O;have r:=zh M;have aY:¬(l.length:Int)<60:=by omega
  have aN:=zh az;clear P W O Z M az;go_wp2;go_ret3
  exact ⟨by rw [I.o];exact r.o,Or.inr ⟨by omega,_,l,m,rfl,Vi D.o (by omega),fun x G=>⟨(A.o x G).1,wX.mono (A.o x G).2 (by omega)⟩,Q.o,ay,Or.inl aN.o⟩⟩
end Go.Proofs.YtckpdfkobdgjeaaGreatDoor
