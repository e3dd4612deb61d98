/- Several texts in one: CutI, CutP, CutQ, CutR. -/
import Derived.Test.YtckpdfkobdgjeaaGreatDoorJAll10
import Derived.WalkKit
import Derived.Lib.Walk
import Derived.Lib.AppendZerosOnto
import Derived.Lib.Overlaps
import Derived.Deep.AppendLies
namespace Go.Proofs.YtckpdfkobdgjeaaGreatDoor
set_option maxRecDepth 100000
set_option maxHeartbeats 8000000
open Go.RowKit Go.Shelf
open Go.RowKit Go.Shelf
attribute [local go_sem] Oper.semAt_some
open Go.RowKit
set_option linter.unusedSectionVars false
variable [Inhabited Mk]
def yL (b:BL) (i:Nat) (x:Bk):BL:=b.take i++x::b.drop i
theorem YH {b:BL} {i:Nat} (x:Bk) (a:i<=b.length):(yL b i x).length=b.length+1:=by simp [yL];omega
theorem TM {b:BL} {i:Nat} (x:Bk) (a:i<=b.length):ze (yL b i x)=(ze b).take (i*7)++zx x++(ze b).drop (i*7):=by
 unfold yL;rw [xw,YW b i a,YV b i a,List.append_assoc];rfl
theorem yX (x:Bk):(zx x).length=7:=rfl
theorem TL (x:Bk):∀ v∈zx x,v.oneCell'=true:=by
 have:=y7 [x];simpa [ze] using this
def PI (w w':World) (e:Ending) (B n:Nat) (row:Option Nat) (b':BL):Prop:=∃ g' k',e=.returned (.slice (zO g' 0) (n+1) k')/\w'.ownsRow B 60 7 (.slice (zO g' 0) (n+1) k') (n+1) (ze b')/\w.grownBy w' row/\(row=some g'\/w.heap.size<=g')
theorem Uv (w:World) (s:TypeId) (g o c f:Nat) (a:Addr) (d r:Nat) (b:Array Value) (cs:List Value)
 (hg:w.heap[g]?=some (.cells b 60 (0,0))) (hn:cs.length=Nat.min d c*7) (m:∀ j v,cs[j]?=some v->w.cell? (a.add j)=some v) (i:o+cs.length<=b.size) (h:∀ v∈cs,v.oneCell'=true) :
 (Builtin.copy_ #[38,38] s #[.slice (zO g o) c f,.slice (some a) d r]).run Tryz.prog w =
  .ok (goInt (Nat.min d c)) (w.setRow g (b.toList.take o++cs++b.toList.drop (o+cs.length)).toArray):=by
 have l:=run_loadCells_list (P:=Tryz.prog) w a cs m;have n:=run_storeCells_at Tryz.prog g o 60 cs 0 b w hg (by simpa using i) h;obtain ⟨q,k,e⟩:=Option.map_eq_some_iff.1 Z5;simp only [Prod.mk.injEq] at e;have p:q.size=7:=e.2.1;simp [Builtin.copy_,run_underlying Tryz.underlying38,Builtin.lenOf,Builtin.firstCells,sizeOf,typeInfo,k,p,<-hn,l,n]
theorem Jb {a:List Value} {b:BL} {n i k:Nat} (x:Bk) (hn:n=b.length) (m:i<=n) (o:n+1<=k) (e:a.length=k*7) (j:a.take (n*7)=ze b) :
 let c1:=a.take ((i+1)*7)++(ze b).drop (i*7)++a.drop ((i+1)*7+((ze b).drop (i*7)).length)
 (c1.take (i*7)++zx x++c1.drop (i*7+(zx x).length)).take ((n+1)*7)=ze (yL b i x)/\(c1.take (i*7)++zx x++c1.drop (i*7+(zx x).length)).length=k*7/\c1.length=k*7:=by
 intro c1;have g:(ze b).length=n*7:=by rw [zE,hn]
 have d:((ze b).drop (i*7)).length=n*7-i*7:=by rw [List.length_drop,g]
 have c:(a.take ((i+1)*7)).length=(i+1)*7:=by rw [List.length_take,e];omega
 have h:c1.length=k*7:=by
  show (_++_++_:List Value).length=_;rw [List.length_append,List.length_append,c,d,List.length_drop,e];omega
 have l:c1.take (i*7)=(ze b).take (i*7):=by
  show (a.take ((i+1)*7)++_++_).take (i*7)=_;rw [List.append_assoc,List.take_append_of_le_length (by rw [c];omega),List.take_take,<-j,List.take_take]
  congr 1
  omega
 have f:c1.drop (i*7+(zx x).length)=(ze b).drop (i*7)++a.drop ((n+1)*7):=by
  show (a.take ((i+1)*7)++(ze b).drop (i*7)++a.drop ((i+1)*7+((ze b).drop (i*7)).length)).drop (i*7+(zx x).length)=_;rw [yX,List.append_assoc,List.drop_append_of_le_length (by rw [c];omega),List.drop_eq_nil_of_le (by rw [c];omega),List.nil_append,d]
  congr 2
  omega
 rw [l,f];refine ⟨?_,?_,h⟩
 ·rw [TM x (by omega),<-List.append_assoc,List.take_append_of_le_length (by simp [yX];omega)];apply List.take_of_length_le;simp [yX];omega
 ·simp [yX];omega
theorem PJ (w:World) (B g k L:Nat) (b:BL) (n:Nat) (x:Bk) (d:Array Value) (hn:n=b.length) (ab:n<=12) (i:Nat) (V:i<n) (N:n+1<=k) (O:k<=maxLen) (hg:w.heap[g]?=some (.cells d 60 (0,0))) (D:d.size=k*7) (G:d.toList.take (n*7)=ze b) (U:B<=g)
 (m:w.heap[L]?=some (.cells (zx x).toArray 60 (0,0))) (P:L≠g) :
 zC 180 #[.slice (zO g 0) n k,zI i,.slice (zO L 0) 1 1] w fun e w'=>e=.returned (.slice (zO g 0) (n+1) k)/\w'.ownsRow B 60 7 (.slice (zO g 0) (n+1) k) (n+1) (ze (yL b i x))/\w.grownBy w' (some g):=by
 have M:d.toList.length=k*7:=by rw [Array.length_toList,D]
 have J:(ze b).length=n*7:=by rw [zE,hn]
 obtain ⟨s,t,u⟩:=Jb x hn (Nat.le_of_lt V) N M G;have ak:k<=9223372036854775807:=by unfold maxLen at O;omega
 have E:((ze b).drop (i*7)).length=(n-i)*7:=by rw [List.length_drop,J];omega
 have Q:∀ j v,(ze b)[j]?=some v->w.cell? (zA g j)=some v:=fun j v c=>by
  rw [cell_of_row w g j _ _ _ hg,<-Array.getElem?_toList];rw [<-G,List.getElem?_take] at c
  split at c
  ·exact c
  cases c
 have Y:∀ lb r,(callFunc 192 #[.slice (zO L 0) 1 1,.slice (zO g ((i+1)*7)) lb r]).run Tryz.prog w=.ok (.value (.bool false)) w:=fun lb r=>by
  rw [run_callFunc_extern Tryz.func192 (by kernel_rfl) (by kernel_rfl) (by kernel_rfl) (e:=Extern.SlicesOverlaps.overlaps #[38,38] #[4]) (by kernel_rfl)];rw [Lib.run_overlaps_apart w 38 4 60 Tryz.underlying38 7 (fun aa=>by
   obtain ⟨aq,W,e⟩:=Option.map_eq_some_iff.1 Z5;simp only [Prod.mk.injEq] at e;simp [sizeOf,typeInfo,W,e.2.1]) (zA L 0) (zA g ((i+1)*7)) 1 1 lb r P 60 60 7 (k*7) (by simp [World.shape?,m,zx]) (by simp [World.shape?,hg,D]) (by omega) (frozen_of_row w L 0 _ _ m) (frozen_of_row w L 7 _ _ m)]
  rfl
 obtain ⟨c1,z⟩:=qB (d.toList.take ((i+1)*7)++(ze b).drop (i*7)++d.toList.drop ((i+1)*7+((ze b).drop (i*7)).length));simp only [<-z] at s t u;have A:∀ h f H,(Builtin.copy_ #[38,38] h #[.slice (zO g ((i+1)*7)) (n+1-(i+1)) f,.slice (zO g (i*7)) (n+1-i) H]).run Tryz.prog w.drew=.ok (goInt (Nat.min (n+1-i) (n+1-(i+1)))) (w.drew.setRow g c1.toArray):=fun h f H=>by
  rw [z];refine Uv w.drew h g ((i+1)*7) (n+1-(i+1)) f (zA g (i*7)) (n+1-i) H d _ hg ?_ ?_ ?_ (fun v Z=>y7 b v (List.mem_of_mem_drop Z))
  ·rw [E]
   congr 1
   simp only [Nat.min_def]
   split <;> omega
  ·intro j v c;rw [List.getElem?_drop] at c;rw [Addr.add_lit];exact Q _ v c
  rw [E,D];omega
 obtain ⟨a,p⟩:=qB (w.drew.setRow g c1.toArray);have F:a.heap[g]?=some (.cells c1.toArray 60 (0,0)):=by rw [p];exact setRow_heap w.drew g d _ _ _ hg
 have I:a.heap[L]?=some (.cells (zx x).toArray 60 (0,0)):=by rw [p];exact (setRow_other w.drew g L _ P).trans m
 have C:∀ h f,(Builtin.copy_ #[38,38] h #[.slice (zO g (i*7)) (n+1-i) f,.slice (zO L 0) 1 1]).run Tryz.prog a=.ok (goInt (Nat.min 1 (n+1-i))) (a.setRow g (c1.toArray.toList.take (i*7)++zx x++c1.toArray.toList.drop (i*7+(zx x).length)).toArray):=fun h f=>by
  refine Uv a h g (i*7) (n+1-i) f (zA L 0) 1 1 c1.toArray _ F ?_ ?_ ?_ (TL x)
  ·rw [yX];have:Nat.min 1 (n+1-i)=1:=(by simp only [Nat.min_def];split <;> omega);rw [this]
  ·intro j v c;rw [Addr.add_lit,Nat.zero_add,cell_of_row a L j _ _ _ I];simpa using c
  rw [yX];simp [u];omega
 rw [<-p] at A;obtain ⟨l,q⟩:=qB (a.setRow g (c1.toArray.toList.take (i*7)++zx x++c1.toArray.toList.drop (i*7+(zx x).length)).toArray);rw [<-q] at C;have ao:¬((i:Int)=(n:Int)):=by omega
 have ap:¬((k:Int)<(n:Int)+1):=by omega
 have am:IntKind.i64.wrap ((i:Int)+1)=(i:Int)+1:=by rw [IntKind.wrap_i64];omega
 have ad:(0:Int)<=(i:Int)+1:=by omega
 have aj:i<=n:=by omega
 have al:((i:Int)+1).toNat=i+1:=by omega
 have ae:¬(k=i+1):=by omega
 have af:(i:Int)<=(n:Int)+1:=by omega
 have ag:¬(k=i):=by omega
 have S:Zh (l.ownsRow B 60 7 (.slice (zO g 0) (n+1) k) (n+1) (ze (yL b i x))/\w.grownBy l (some g)):=by
  refine zh ⟨⟨by rw [zE,YH x (by omega)];omega,.inr ⟨g,k,_,rfl,U,by rw [q];exact setRow_heap a g _ _ _ _ F,N,O,by simpa using t,by simpa using s⟩⟩,?_⟩;rw [q,p];refine ⟨rfl,rfl,rfl,by simp [World.setRow],fun y an X=>?_⟩;have R:y≠g:=fun e=>X (by rw [e]);rw [setRow_other _ g y _ R,setRow_other _ g y _ R];rfl
 have ah:(Builtin.copy_ #[38,38] 3 #[.slice (zO g ((i+1)*7)) (n-i) (k-(i+1)),.slice (zO g (i*7)) (n+1-i) (k-i)]).run Tryz.prog w.drew=.ok (goInt (Nat.min (n+1-i) (n+1-(i+1)))) a:=by
  have:=A 3 (k-(i+1)) (k-i);rw [show n+1-(i+1)=n-i by omega] at this ⊢;exact this
 have ai:(Builtin.copy_ #[38,38] 3 #[.slice (zO g (i*7)) (n+1-i) (k-i),.slice (zO L 0) 1 1]).run Tryz.prog a=.ok (goInt (Nat.min 1 (n+1-i))) l:=C 3 (k-i);clear q p F I s t u z Q E J M m hg G hn A C;go_enter Tryz.func180,Tryz.ntmps180;go_wp2_with (simp only [Y])
 go_region
 go_wp2;go_ret;exact ⟨rfl,S.o⟩
theorem MZ {b:BL} {n i d:Nat} (x:Bk) (hn:n=b.length) (m:i<=n) (l:n+1<=d) (c:List Value) (j:c.length=d*7) (f:c.take (i*7)=(ze b).take (i*7)) :
 let c1:=c.take (i*7)++zx x++c.drop (i*7+(zx x).length)
 (c1.take ((i+1)*7)++(ze b).drop (i*7)++c1.drop ((i+1)*7+((ze b).drop (i*7)).length)).take ((n+1)*7)=ze (yL b i x)/\(c1.take ((i+1)*7)++(ze b).drop (i*7)++c1.drop ((i+1)*7+((ze b).drop (i*7)).length)).length=d*7/\c1.length=d*7:=by
 intro c1;have g:(ze b).length=n*7:=by rw [zE,hn]
 have e:((ze b).drop (i*7)).length=n*7-i*7:=by rw [List.length_drop,g]
 have a:((ze b).take (i*7)).length=i*7:=by rw [List.length_take,g];omega
 have h:c1.length=d*7:=by
  show (_++_++_:List Value).length=_;rw [f,List.length_append,List.length_append,a,yX,List.length_drop,j];omega
 have k:c1.take ((i+1)*7)=(ze b).take (i*7)++zx x:=by
  show (c.take (i*7)++zx x++c.drop (i*7+(zx x).length)).take ((i+1)*7)=_;rw [f,List.take_append_of_le_length (by rw [List.length_append,a,yX];omega),List.take_of_length_le (by rw [List.length_append,a,yX];omega)]
 rw [k];refine ⟨?_,?_,h⟩
 ·rw [TM x (by omega),List.take_append_of_le_length (by rw [List.length_append,List.length_append,a,e,yX];omega)];apply List.take_of_length_le;rw [List.length_append,List.length_append,a,e,yX];omega
 ·rw [List.length_append,List.length_append,List.length_append,a,e,yX,List.length_drop,h];omega
theorem OJ (w:World) (B g L:Nat) (b:BL) (n:Nat) (x:Bk) (s:Array Value) (hn:n=b.length) (aq:n<=12) (i:Nat) (an:i<n) (hg:w.heap[g]?=some (.cells s 60 (0,0))) (ag:s.toList.take (n*7)=ze b) (S:B<=w.heap.size)
 (F:w.heap[L]?=some (.cells (zx x).toArray 60 (0,0))) :
 zC 180 #[.slice (zO g 0) n n,zI i,.slice (zO L 0) 1 1] w fun e w'=>PI w w' e B n none (yL b i x):=by
 have r:(ze b).length=n*7:=by rw [zE,hn]
 have O:∀ j v,(ze b)[j]?=some v->w.cell? (zA g j)=some v:=fun j v c=>by
  rw [cell_of_row w g j _ _ _ hg,<-Array.getElem?_toList];rw [<-ag,List.getElem?_take] at c
  split at c
  ·exact c
  cases c
 have ab:g<w.heap.size:=(Array.getElem?_eq_some_iff.1 hg).1;have X:L<w.heap.size:=(Array.getElem?_eq_some_iff.1 F).1;obtain ⟨ah,ad,e⟩:=Option.map_eq_some_iff.1 Z5;simp only [Prod.mk.injEq] at e;obtain ⟨ai,aj,Q⟩:=e;have ae:(Builtin.firstCells ah.size i (.slice (zO g 0) i n)).run Tryz.prog w.drew=.ok ((ze b).take (i*7)).toArray w.drew:=by
  rw [aj];refine run_firstCells_some w.drew 7 i (zA g 0) i n ((ze b).take (i*7)) (by rw [List.length_take,r];omega) fun j v c=>?_;rw [Addr.add_lit,Nat.zero_add];rw [List.getElem?_take] at c
  split at c
  ·exact O j v c
  cases c
 obtain ⟨a,t⟩:=qB (grownCap w (n+1) n 60);have V:n+1<=a:=by rw [t];exact grownCap_ge w _ _ _
 have U:a<=maxLen:=by rw [t];exact grownCap_le_maxLen w (n+1) n 60 (by unfold maxLen;omega)
 obtain ⟨k,u⟩:∃ k:Array Value,k=((ze b).take (i*7)).toArray++Builtin.zeroCells Vt.cells (n+1-i)++Builtin.zeroCells Vt.cells (a-(n+1)):=⟨_,rfl⟩;obtain ⟨d,l⟩:=qB (w.drew.alloc (.cells k 60));have af:(Builtin.append_ #[38,3] 38 #[.slice (zO g 0) i n,zI ((n:Int)+1-(i:Int))]).run Tryz.prog w=.ok (.slice (zO w.heap.size 0) (n+1) a) d:=by
  have h:=Lib.run_append_grow_zeros (P:=Tryz.prog) w 38 3 38 60 ah _ .i64 .i64 Tryz.underlying38 Tryz.underlying3 ad ai (zO g 0) i n ((ze b).take (i*7)) ae (n+1-i) (by omega) (by omega) (by omega) (by omega) (by rw [Q];omega) (by rw [Q,show i+(n+1-i)=n+1 by omega];exact growslice_fits (by omega) (by omega));rw [show i+(n+1-i)=n+1 by omega] at h;rw [show (n:Int)+1-(i:Int)=((n+1-i:Nat):Int) by omega,l,u,t];exact h
 have J:k.toList.length=a*7:=by
  rw [u];simp [r];have:=Xb (n+1-i);have:=Xb (a-(n+1));simp at *;omega
 have Y:k.toList.take (i*7)=(ze b).take (i*7):=by
  rw [u];simp only [Array.toList_append,List.append_assoc];rw [List.take_append_of_le_length (by simp [r];omega)];apply List.take_of_length_le;simp;omega
 obtain ⟨C,D,E⟩:=MZ x hn (Nat.le_of_lt an) V k.toList J Y;obtain ⟨c1,M⟩:=qB (k.toList.take (i*7)++zx x++k.toList.drop (i*7+(zx x).length));simp only [<-M] at C D E;have H:d.heap[w.heap.size]?=some (.cells k 60 (0,0)):=by rw [l];exact heap_alloc_new w.drew _
 have W:d.heap[L]?=some (.cells (zx x).toArray 60 (0,0)):=by rw [l];exact (Below.heap_alloc w.drew _ L X).trans F
 have Z:d.heap[g]?=some (.cells s 60 (0,0)):=by rw [l];exact (Below.heap_alloc w.drew _ g ab).trans hg
 obtain ⟨f,m⟩:=qB (d.setRow w.heap.size c1.toArray);have al:(Builtin.copy_ #[38,38] 3 #[.slice (zO w.heap.size (i*7)) (n+1-i) (a-i),.slice (zO L 0) 1 1]).run Tryz.prog d=.ok (goInt (Nat.min 1 (n+1-i))) f:=by
  rw [m,M];refine Uv d 3 w.heap.size (i*7) (n+1-i) (a-i) (zA L 0) 1 1 k _ H ?_ ?_ ?_ (TL x)
  ·rw [yX];have:Nat.min 1 (n+1-i)=1:=(by simp only [Nat.min_def];split <;> omega);rw [this]
  ·intro j v c;rw [Addr.add_lit,Nat.zero_add,cell_of_row d L j _ _ _ W];simpa using c
  rw [yX];rw [Array.length_toList] at J;omega
 have I:f.heap[w.heap.size]?=some (.cells c1.toArray 60 (0,0)):=by rw [m];exact setRow_heap d _ k _ _ _ H
 have aa:f.heap[g]?=some (.cells s 60 (0,0)):=by rw [m];exact (setRow_other d _ g _ (by omega)).trans Z
 have N:((ze b).drop (i*7)).length=(n-i)*7:=by rw [List.length_drop,r];omega
 obtain ⟨q,p⟩:=qB (f.drew.setRow w.heap.size (c1.toArray.toList.take ((i+1)*7)++(ze b).drop (i*7)++c1.toArray.toList.drop ((i+1)*7+((ze b).drop (i*7)).length)).toArray);have am:(Builtin.copy_ #[38,38] 3 #[.slice (zO w.heap.size ((i+1)*7)) (n-i) (a-(i+1)),.slice (zO g (i*7)) (n-i) (n-i)]).run Tryz.prog f.drew=.ok (goInt (Nat.min (n-i) (n-i))) q:=by
  rw [p];refine Uv f.drew 3 w.heap.size ((i+1)*7) (n-i) (a-(i+1)) (zA g (i*7)) (n-i) (n-i) c1.toArray _ I ?_ ?_ ?_ (fun v ao=>y7 b v (List.mem_of_mem_drop ao))
  ·rw [N]
   congr 1
   exact (Nat.min_self _).symm
  ·intro j v c;rw [List.getElem?_drop] at c;rw [Addr.add_lit];have R:=O _ v c;rw [cell_of_row w g _ _ _ _ hg] at R;show f.cell? (zA g (i*7+j))=some v;rw [cell_of_row f g _ _ _ _ aa];exact R
  rw [N];simp [E];omega
 have z:Zh (q.ownsRow B 60 7 (.slice (zO w.heap.size 0) (n+1) a) (n+1) (ze (yL b i x))/\w.grownBy q none):=by
  refine zh ⟨⟨by rw [zE,YH x (by omega)];omega,.inr ⟨w.heap.size,a,_,rfl,S,by rw [p];exact setRow_heap f.drew _ _ _ _ _ I,V,U,by simpa using D,by simpa using C⟩⟩,?_⟩;refine ⟨by rw [p,m,l];rfl,by rw [p,m,l];rfl,by rw [p,m,l];rfl,by rw [p,m,l];simp [World.setRow],fun y ap _=>?_⟩;rw [p,setRow_other _ _ y _ (by omega)];show f.heap[y]?=_;rw [m,setRow_other _ _ y _ (by omega),l];exact Below.heap_alloc w.drew _ y ap
 have aC:¬((i:Int)=(n:Int)):=by omega
 have aD:((n:Int)<(n:Int)+1):=by omega
 have aB:IntKind.i64.wrap ((i:Int)+1)=(i:Int)+1:=by rw [IntKind.wrap_i64];omega
 have au:(0:Int)<=(i:Int)+1:=by omega
 have az:i<=n:=by omega
 have aA:((i:Int)+1).toNat=i+1:=by omega
 have av:¬(a=i+1):=by omega
 have aw:(i:Int)<=(n:Int):=by omega
 have ax:¬(a=i):=by omega
 have ay:¬(n=i):=by omega
 have ar:a<=9223372036854775807:=by unfold maxLen at U;omega
 obtain ⟨A,G⟩:=qA (w.heap.size);rw [G] at af al am z;have ak:=zh G;clear p m l Z W H I aa C D E M O N r F hg ag hn J Y u ae ai aj Q ad t G ab X S;go_enter Tryz.func180,Tryz.ntmps180;go_wp2_with (at_builtin;refine Lib.wpList_append_run _ rfl _ _ _ _ rfl _ _ rfl rfl _ _ af ?_)
 go_region
 go_wp2;go_ret;exact ⟨A,a,rfl,z.o.1,z.o.2,Or.inr (Nat.le_of_eq ak.o)⟩
theorem Gh {b:BL} {n:Nat} (x:Bk) (hn:n=b.length):yL b n x=b++[x]:=by
 unfold yL;rw [hn,List.take_length,List.drop_length]
theorem Mm (w:World) (B L:Nat) (v:Value) (b:BL) (n:Nat) (x:Bk) (hn:n=b.length) (E:n<=12) (d:w.ownsRow B 60 7 v n (ze b)) (y:B<=w.heap.size)
 (f:w.heap[L]?=some (.cells (zx x).toArray 60 (0,0))) :
 zC 180 #[v,zI n,.slice (zO L 0) 1 1] w fun e w'=>PI w w' e B n v.ownBlock (yL b n x):=by
 obtain ⟨C,l,e⟩:=Option.map_eq_some_iff.1 Z5;simp only [Prod.mk.injEq] at e;obtain ⟨p,q,r⟩:=e;obtain ⟨a,m,w',t,c,i,h,_⟩:=run_append_lies w 38 38 B 60 C _ 7 88 Tryz.underlying38 l p q r (by rfl) (by omega) v n (ze b) d (zA L 0) 1 1 (ze [x]) rfl (fun j u z=>by
  rw [Addr.add_lit,Nat.zero_add,cell_of_row w L j _ _ _ f];simpa [ze] using z) (y7 [x]) (by omega) (by unfold maxLen;omega) (by omega) y w.heap.size rfl
 rw [<-xw,<-Gh x hn] at c;have s:Zh (w'.ownsRow B 60 7 (.slice (zO a 0) (n+1) m) (n+1) (ze (yL b n x))/\w.grownBy w' v.ownBlock/\(v.ownBlock=some a\/w.heap.size<=a)):=zh ⟨c,i,h.imp id (fun e=>Nat.le_of_eq e.symm)⟩;rcases d.2 with ⟨rfl,rfl⟩ | ⟨g,k,D,rfl,_,_,G,A,_,_⟩
 ·clear c i d hn f h p q r l;go_enter Tryz.func180,Tryz.ntmps180;go_wp2_with (at_builtin;refine Lib.wpList_append_run _ rfl _ _ _ _ rfl _ _ rfl rfl _ _ t ?_)
  go_ret;exact ⟨a,m,rfl,s.o⟩
 ·have F:k<=9223372036854775807:=by unfold maxLen at A;omega
  clear c i d hn f h p q r l;go_enter Tryz.func180,Tryz.ntmps180;go_wp2_with (at_builtin;refine Lib.wpList_append_run _ rfl _ _ _ _ rfl _ _ rfl rfl _ _ t ?_)
  all_goals
   go_ret;exact ⟨a,m,rfl,s.o⟩
theorem SI (w:World) (B L:Nat) (v:Value) (b:BL) (n:Nat) (x:Bk) (hn:n=b.length) (f:n<=12) (o:w.ownsRow B 60 7 v n (ze b)) (l:B<=w.heap.size)
 (h:w.heap[L]?=some (.cells (zx x).toArray 60 (0,0))) (z:v.ownBlock≠some L) (i:Nat) (D:i<=n) :
 zC 180 #[v,zI i,.slice (zO L 0) 1 1] w fun e w'=>PI w w' e B n v.ownBlock (yL b i x):=by
 by_cases e:i=n
 ·subst e;exact Mm w B L v b i x hn f o l h
 ·have m:i<n:=by omega
  rcases o.2 with ⟨rfl,rfl⟩ | ⟨g,k,j,rfl,r,hg,E,u,s,p⟩
  ·omega
  by_cases t:n+1<=k
  ·refine (PJ w B g k L b n x j hn f i m t u hg s p r h (fun e=>z (by rw [e];rfl))).mono ?_;rintro e w' ⟨rfl,d,a⟩;exact ⟨g,k,rfl,d,a,Or.inl rfl⟩
  obtain rfl:k=n:=by omega
  refine (OJ w B g L b k x j hn f i m hg p l h).mono ?_;rintro e w' ⟨q,C,rfl,d,a,c⟩;refine ⟨q,C,rfl,d,⟨a.os,a.tape,a.output,a.size,fun y A _=>a.block y A (by simp)⟩,Or.inr ?_⟩;rcases c with c | c
  ·cases c
  exact c
def XY (b:BL) (id:Int):Nat->Nat
 | 0=>0
 | m+1=>if (bk b m).id<id then m+1 else XY b id m
theorem Oa (b:BL) (a:Int):∀ m,XY b a m<=m
 | 0=>Nat.le_refl _
 | m+1=>by
  rw [XY]
  split
  ·exact Nat.le_refl _
  exact Nat.le_succ_of_le (Oa b a m)
theorem P9 {b:BL} {a:Int}:∀ {n m:Nat},m<n->(bk b m).id<a->(∀ i,m<i->i<n->¬(bk b i).id<a)->XY b a n=m+1
 | 0,m,h,_,_=>by omega
 | n+1,m,h,h1,h2=>by
  rw [XY];by_cases e:m=n
  ·subst e;rw [if_pos h1]
  rw [if_neg (h2 n (by omega) (by omega))];exact P9 (by omega) h1 fun i c hn=>h2 i c (by omega)
theorem To {b:BL} {a:Int}:∀ {n:Nat},(∀ i,i<n->¬(bk b i).id<a)->XY b a n=0
 | 0,_=>rfl
 | n+1,h=>by
  rw [XY,if_neg (h n (by omega))];exact To fun i c=>h i (by omega)
def Zj (b:BL) (x:Bk):BL:=yL b (XY b x.id b.length) x
theorem zy {w a:World} {B n:Nat} {e:TypeId} {z:Nat} {v:Value} {b:List Value} (h:w.ownsRow B e z v n b) (i:Below w.heap.size w a):a.ownsRow B e z v n b:=by
 refine ⟨h.1,?_⟩;rcases h.2 with hn | ⟨g,c,d,rfl,f,hg,rest⟩
 ·exact .inl hn
 exact .inr ⟨g,c,d,rfl,f,(i.block g (Array.getElem?_eq_some_iff.1 hg).1).trans hg,rest⟩
theorem VH {w:World} {B n g k:Nat} {b:BL} (hn:n=b.length) (h:w.ownsRow B 60 7 (.slice (zO g 0) n k) n (ze b)):n<=k/\k<=9223372036854775807/\∀ i,i<n->∀ j u,(zx (bk b i))[j]?=some u->w.cell? (zA g (0+i*7+j))=some u:=by
 rcases h.2 with ⟨e,_⟩ | ⟨q,o,p,e,r,hg,f,l,t,m⟩
 ·cases e
 simp only [Value.slice.injEq,Option.some.injEq,Addr.mk.injEq,and_true] at e;obtain ⟨rfl,_,rfl⟩:=e;refine ⟨f,by unfold maxLen at l;omega,fun i s j u c=>?_⟩;have d:j<7:=(List.getElem?_eq_some_iff.1 c).1;rw [cell_of_row w g _ _ _ _ hg,<-Array.getElem?_toList];have a:=Za b i j (by omega) d;rw [<-m,List.getElem?_take,if_pos (by omega)] at a;rw [Nat.zero_add,a];exact c
theorem Ow (n:Nat) (j d k:Nat) (a:Option Addr) (b:List (BN 0)->World->Prop) (c:World) (l:c.cell? (zA d 0)=some (.slice a 0 k)) (g:b [] c) :
 CallsIn Fence.wide n Tryz.prog 190 #[.func (.yield j) #[] #[],.pointer (zO d 0)] c fun e f=>(∃ v,e=.returned v)/\b [] f:=by
 refine callsIn_of_wp Tryz.func190 rfl trivial ?_ rfl;simp only [Tryz.ntmps190,List.size_toArray,List.length_cons,List.length_nil,Nat.reduceAdd,Nat.reduceSub,Array.replicate_succ,Array.replicate_zero,List.push_toArray,List.append_toArray,List.nil_append,List.cons_append]
 gi_wp2
 gi_loopw [3] (fun i wr=>i=zI (-1)/\b [] wr) (fun _ _=>0)
 case atStart=>exact ⟨rfl,g⟩
 case round =>
  obtain ⟨rfl,h⟩:=hrel
  gi_wp2
  go_end0
  exact ⟨⟨_,rfl⟩,h⟩
theorem Oy (n:Nat) (hn:1<=n) (h g B:Nat) (a k:Nat) (b:BL) (u:a=b.length) (r:a<=12) (w:World) (A:w.ownsRow B 60 7 (.slice (zO g 0) a k) a (ze b)) (j:w.cell? (zA h 0)=some (.slice (zO g 0) a k)) :
 SeqStopsK Fence.wide n Tryz.prog 190 #[.pointer (zO h 0)] (fun x:BN a=>#[zI (x.1:Int),Fi (bk b x.1)]) (Below w.heap.size) (fun G=>G=dn a a) (fun D=>∃ k,k<=a/\D=dn a k) a w:=fun l m q o c _ _ t p=>by
 have s:h<w.heap.size:=block_lt_of_cell j;obtain ⟨E,F,d⟩:=VH u A;by_cases C:0<a
 ·have y:g<w.heap.size:=block_lt_of_cell (d 0 C 0 _ rfl);exact Ox n hn l h w.heap.size g 0 a k b r E F y s m q t o (cell_later c j) (fun i f=>⟨cell_later c (d i f 0 _ rfl),cell_later c (d i f 1 _ rfl),cell_later c (d i f 2 _ rfl),cell_later c (d i f 3 _ rfl),cell_later c (d i f 4 _ rfl),cell_later c (d i f 5 _ rfl),cell_later c (d i f 6 _ rfl)⟩) p
 ·obtain rfl:a=0:=by omega
  exact (Ow n l h k _ m o (cell_later c j) p).mono fun e H ⟨v,z⟩=>⟨v,.inl ⟨_,rfl,z⟩⟩
theorem Oz (m:Nat) (t:1<=m) (c B n k:Nat) (a:Option Addr) (b:BL) (q:n=b.length) (o:n<=12) (w:World) (f:w.ownsRow B 60 7 (.slice a n k) n (ze b)) (d:w.cell? (zA c 0)=some (.slice a n k)) :
 SeqStopsK Fence.wide m Tryz.prog 190 #[.pointer (zO c 0)] (fun x:BN n=>#[zI (x.1:Int),Fi (bk b x.1)]) (Below w.heap.size) (fun v=>v=dn n n) (fun u=>∃ k,k<=n/\u=dn n k) n w:=by
 rcases f.2 with ⟨e,rfl⟩ | ⟨g,A,C,e,_⟩
 ·intro l h y i p _ _ D j;exact (Ow m l c k a h i (cell_later p d) j).mono fun e z ⟨r,s⟩=>⟨r,.inl ⟨_,rfl,s⟩⟩
 ·simp only [Value.slice.injEq] at e;obtain ⟨rfl,_,rfl⟩:=e;exact Oy m t c g B n k b q o w f d
theorem TS {w d b:World} {row:Option Nat} {c:Nat} (v:Value) (a:Below w.heap.size w d) (hg:d.grownBy b row) (g:w.heap.size<=c):w.grownBy (b.setCell (zA c 0) v) row :=
 ⟨hg.os.trans a.os,hg.tape.trans a.tape,hg.output.trans a.output,by rw [show (b.setCell (zA c 0) v).heap.size=b.heap.size by simp [World.setCell]];exact Nat.le_trans a.size hg.size,
  fun k e f=>(Below.heap_setCell b (zA c 0) v k (by simp only;omega)).trans ((hg.block k (Nat.lt_of_lt_of_le e a.size) f).trans (a.block k e))⟩
theorem xE {w a D:World} {row c:Option Nat} (h:w.grownBy a row) (hg:a.grownBy D c) (f:∀ j,c=some j->w.heap.size<=j):w.grownBy D row :=
 ⟨hg.os.trans h.os,hg.tape.trans h.tape,hg.output.trans h.output,Nat.le_trans h.size hg.size,fun k b d=>(hg.block k (Nat.lt_of_lt_of_le b h.size) (fun e=>by have:=f k e.symm;omega)).trans (h.block k b d)⟩
def FC (b:BL) (x:Bk) (n:Nat) (w3:World) (pre:List (BN n)) (W:World):Prop:=(∀ y∈pre,x.id<=(bk b y.1).id)/\Below w3.heap.size w3 W
def zzFSx (b:BL) (x:Bk) (n B R:Nat) (row:Option Nat) (w:World) (cd:Code) (pre:List (BN n)) (W:World):Prop :=
 cd=.ret/\∃ ini y g' k',pre=ini++[y]/\(∀ z∈ini,x.id<=(bk b z.1).id)/\(bk b y.1).id<x.id/\W.cell? (zA R 0)=some (.slice (zO g' 0) (n+1) k')/\W.ownsRow B 60 7 (.slice (zO g' 0) (n+1) k') (n+1) (ze (yL b (y.1+1) x))/\w.grownBy W row/\(row=some g'\/w.heap.size<=g')
theorem LZ (w:World) (B n k:Nat) (a:Option Addr) (b:BL) (x:Bk) (hn:n=b.length) (aE:n<=12) (a4:w.ownsRow B 60 7 (.slice a n k) n (ze b)) (a1:B<=w.heap.size) :
 zC 146 #[.slice a n k,.agg #[zI x.id,zI x.rq.queue,zI x.rq.fr,zI x.rq.un,zI x.rq.kind,.slice x.rq.pa x.rq.pn x.rq.pc,.slice x.ba x.bn x.bc]] w fun e w'=>PI w w' e B n (Value.slice a n k).ownBlock (Zj b x):=by
 obtain ⟨S,a2⟩:=qA (w.heap.size);obtain ⟨H,Y⟩:=qB (w.alloc (.cells #[.slice a n k] 38));obtain ⟨I,Z⟩:=qB (H.alloc (.cells (zB x) 60));obtain ⟨l,aa⟩:=qB (I.alloc (.cells #[zN] 38));have aO:H.heap.size=S+1:=by rw [Y];simp [a2]
 have aP:I.heap.size=S+1+1:=by rw [Z];simp [aO]
 have a8:l.heap.size=S+1+1+1:=by rw [aa];simp [aP]
 have b1:zL w H:=by rw [Y];exact zr _ _
 have au:zL H I:=by rw [Z];exact zr _ _
 have ag:zL I l:=by rw [aa];exact zr _ _
 have aQ:Boxed l S 38 (.slice a n k):=by
  have:Boxed H S 38 (.slice a n k):=by rw [Y,<-a2];exact Boxed.new w _ _
  exact (ag.block _ (by omega)).trans ((au.block _ (by omega)).trans this)
 have bb:ww l (S+1) x:=by
  have:ww I (S+1) x:=by rw [Z,<-aO];exact heap_alloc_new H _
  exact this.later ag
 have a9:Boxed l (S+1+1) 38 zN:=by rw [aa,<-aP];exact Boxed.new I _ _
 have aI:zL w l:=za (za b1 au) ag;have bm:=zh (OA l a n k);have bg:=zh (zy a4 aI);have be:=zh aI;have bj:=zh aQ;have bl:=zh bb;have bi:=zh a9;have V:=zh a8;have aH:l=((w.alloc (.cells #[.slice a n k] 38)).alloc (.cells (zB x) 60)).alloc (.cells #[zN] 38):=by rw [aa,Z,Y]
 have bh:=zh aH;have R:=zh hn;have ah:=aQ.cell;rw [aH] at ah;have a3:∀ g,(Value.slice a n k).ownBlock=some g->g<S:=fun g hg=>by
  have:=(a4.lt g hg).2;omega
 have P:=zh a3;clear Y Z aa aO aP a8 b1 au ag aQ bb a9 aI aH a3 hn;refine (callsIn_wide (n:=4)).1 ?_;refine callsIn_of_wp_marks Tryz.func146 rfl trivial ?_ rfl;simp only [Tryz.ntmps146,List.size_toArray,List.length_cons,List.length_nil,Nat.reduceAdd,Nat.reduceSub,Array.replicate_succ,Array.replicate_zero,List.push_toArray,List.append_toArray,List.nil_append,List.cons_append]
 gi_wp2_with fail
 rw [<-bh.o];refine ⟨trivial,(callsIn_wide.2 bm.o).mono ?_⟩;rintro e v ⟨rfl,a5⟩;rw [V.o];have ao:=zh a5;have Q:zL l v:=by rw [ao.o];exact zr _ _
 have a7:v.heap.size=S+1+1+1+1:=by rw [ao.o];simp [V.o]
 have aZ:v.cell? (zA (S+1+1+1) 0)=some (.slice a n k):=by
  have:Boxed v (S+1+1+1) 38 (.slice a n k):=by rw [ao.o,<-V.o];exact Boxed.new l _ _
  exact this.cell
 have E:=zh (za be.o Q);have an:=zh (zy bg.o Q);have aU:Zh (Boxed v S 38 (.slice a n k)):=zh ((Q.block _ (by have:=V.o;omega)).trans bj.o);have aV:=zh (bl.o.later Q);have aT:Zh (Boxed v (S+1+1) 38 zN):=zh ((Q.block _ (by have:=V.o;omega)).trans bi.o);have z:=zh a7;have bd:=zh aZ;clear a5 ah Q a7 aZ
 gi_wp2_with fail
 refine wpIn_rangeFunc_ownH (F:=Fence.wide) rfl (by omega) (gf:=190) (lb:=#[.pointer (zO (S+1+1+1) 0)]) rfl trivial (enters_of Tryz.func190 (by kernel_rfl) rfl)
  (Oz _ (by omega) (S+1+1+1) B n k a b R.o aE v an.o bd.o)
  belowK_t (belowK_b (Nat.le_refl _)) (Below.refl _ _) (fun _=>rfl)
  (FC b x n v) (zzFSx b x n B (S+1+1) (Value.slice a n k).ownBlock w)
  (show OwnFrom v.heap.size (FC b x n v) from OwnFrom.and (ownFrom_pure _ _) (ownFrom_below (Nat.le_refl _) (Nat.le_refl _)))
  (fun bp s aR D row aL hg N=>by
   obtain ⟨bx,a6,y,f,p,W,ax,ay,az,ai,aA,aB⟩:=aL;refine ⟨bx,a6,y,f,p,W,ax,ay,cell_kept az hg (fun r e=>(N r e).2),?_,xE aA hg (fun j e=>Nat.le_trans E.o.size (N j e).1),aB⟩;rcases ai.2 with ⟨_,bS⟩ | ⟨g,bQ,bR,a0,_,bz,_⟩
   ·omega
   refine ai.kept hg (Or.inr fun e=>?_);have br:f=g:=(by simp only [Value.slice.injEq,Option.some.injEq,Addr.mk.injEq] at a0;exact a0.1.1);subst br;obtain ⟨_,o,u,aK⟩:=N f (show row=some f from e.symm);rw [bz] at u;cases u
   cases aK)
  ⟨fun y A=>absurd A (List.not_mem_nil),Below.refl _ _⟩
  (fun y ar c=>∃ C,v.heap.size<=C/\ww c C (bk b y.1)/\ar={ tmps:=#[.slice a n k,.agg (zB x),.pointer (zO S 0),.pointer (zO (S+1) 0),.pointer (zO (S+1+1) 0),zI (y.1:Int),.pointer (zO C 0),.slice a n k,.func (.func 190) #[] #[.pointer (zO (S+1+1+1) 0)],zI (y.1:Int),.agg (zB (bk b y.1)),undef,undef,undef,undef,undef,undef,undef,undef,undef,undef,undef,undef,undef,undef,undef],defers:=[] })
  (fun y ar s aR D row aL hg N=>by
   obtain ⟨C,aD,X,aF⟩:=aL;refine ⟨C,aD,(hg.block C (Array.getElem?_eq_some_iff.1 X).1 (fun e=>?_)).trans X,aF⟩;obtain ⟨_,o,u,aK⟩:=N C e.symm;have bt:aR.heap[C]?=_:=X;rw [bt] at u;cases u
   cases aK)
  ?assign ?body ?done ?stop
 case assign =>
  rintro bA aN y c bP t L;simp only [Fi]
  gi_wp2
  exact L _ _ ((KeepsOthers.alloc _ _).from _) ((Below.refl _ c).alloc t.2.size _) ⟨t.1,t.2.alloc t.2.size _⟩ ⟨c.heap.size,t.2.size,heap_alloc_new c _,rfl⟩
 case body =>
  rintro bA aN y ar c bW ⟨r,N⟩ ⟨ad,q⟩ ⟨C,bT,aX,rfl⟩ bX;obtain ⟨i,t⟩:=y;have aM:=z.o;have ah:=(show Boxed c S 38 (.slice a n k) from (q.block _ (by omega)).trans aU.o).cell;have aY:=aV.o.later q;obtain ⟨bB,bC,bD,bE,bF,bG,bH⟩:=aY.cells;obtain ⟨bI,bJ,bK,bL,bM,bN,bO⟩:=aX.cells;have af:=zh ad;have d:=zh q;have av:Zh (Boxed c (S+1+1) 38 zN):=zh ((q.block _ (by omega)).trans aT.o);obtain ⟨aq,aj⟩:=qA (bk b i);rw [aj] at bI bJ bK bL bM bN bO;simp only [aj];have aW:=zh aj;clear ad q aY aX N aM aj;by_cases g:aq.id<x.id
  ·have ap:=SI (c.alloc (.cells (zB x) 60)) B c.heap.size (.slice a n k) b n x R.o aE (zy an.o (d.o.alloc d.o.size _)) (Nat.le_trans a1 (Nat.le_trans E.o.size (Nat.le_trans d.o.size (by simp)))) (heap_alloc_new c _) (fun e=>by have aD:=P.o _ e;have X:=d.o.size;have aF:=z.o;omega) (i+1) (by omega);rw [show ((i+1:Nat):Int)=(i:Int)+1 by omega] at ap;have am:=zh ap;have bU:i<12:=(by omega);clear ap
   gi_wp2_with fail
   refine ⟨trivial,(Xz am.o).mono ?_⟩;rintro e J ⟨f,p,rfl,u,M,ab⟩;have al:Zh ((Value.slice a n k).ownBlock=some f\/w.heap.size<=f):=zh (ab.imp id (fun h=>Nat.le_trans (za E.o (d.o.alloc d.o.size _)).size h));have G:Boxed J (S+1+1) 38 zN:=(M.block _ (by have:=d.o.size;have:=z.o;simp;omega) (fun e=>by have:=P.o _ e.symm;omega)).trans ((Below.heap_alloc c _ _ (by have:=d.o.size;have:=z.o;omega)).trans av.o);have aw:=G.cell;have bo:=G.frozen;have ak:=zh G;have U:=zh u;have ae:=zh M;clear u M G ab
   gi_wp2
   refine ⟨?_,rfl,aN,⟨i,t⟩,f,p,rfl,af.o,show (bk b i).id<x.id by rw [aW.o];exact g,World.cell?_setCell_same' _ _ _ (by rw [aw];rfl),U.o.kept (grownBy_setCell' J (S+1+1) _) (Or.inr fun e=>ak.o.not_row (by decide) U.o e.symm),TS _ (za E.o (d.o.alloc d.o.size _)) ae.o (by show w.heap.size<=S+1+1;omega),al.o⟩;refine ((KeepsOthers.alloc c _).from _).trans ((KeepsFrom.of_grownBy ae.o (fun j e=>by have:=P.o j e;have:=z.o;omega)).trans ((KeepsOthers.setCell _ _ _).from _))
  gi_wp2
  refine ⟨KeepsFrom.refl _ _,Below.refl _ _,fun y A=>?_,d.o⟩;rw [List.mem_append] at A;rcases A with A | A
  ·exact af.o y A
  rw [List.mem_singleton] at A;subst A;show x.id<=(bk b i).id;rw [aW.o];omega
 case done =>
  rintro D bY c bu rfl ⟨ad,q⟩ L;have aM:=z.o;have ah:=(show Boxed c S 38 (.slice a n k) from (q.block _ (by omega)).trans aU.o).cell;obtain ⟨bB,bC,bD,bE,bF,bG,bH⟩:=(aV.o.later q).cells;have af:=zh ad;have d:=zh q;have aS:=zh L;have av:Zh (Boxed c (S+1+1) 38 zN):=zh ((q.block _ (by omega)).trans aT.o);have am:=zh (SI (c.alloc (.cells (zB x) 60)) B c.heap.size (.slice a n k) b n x R.o aE (zy an.o (d.o.alloc d.o.size _)) (Nat.le_trans a1 (Nat.le_trans E.o.size (Nat.le_trans d.o.size (by simp)))) (heap_alloc_new c _) (fun e=>by have aD:=P.o _ e;have X:=d.o.size;have aF:=z.o;omega) 0 (Nat.zero_le _));clear ad q aM L
  gi_wp2_with fail
  refine ⟨trivial,(callsIn_wide.2 am.o).mono ?_⟩;rintro e J ⟨f,p,rfl,u,M,ab⟩;have al:Zh ((Value.slice a n k).ownBlock=some f\/w.heap.size<=f):=zh (ab.imp id (fun h=>Nat.le_trans (za E.o (d.o.alloc d.o.size _)).size h));have G:Boxed J (S+1+1) 38 zN:=(M.block _ (by have:=d.o.size;have:=z.o;simp;omega) (fun e=>by have:=P.o _ e.symm;omega)).trans ((Below.heap_alloc c _ _ (by have:=d.o.size;have:=z.o;omega)).trans av.o);have aw:=G.cell;have bo:=G.frozen;have ak:=zh G;have U:=zh u;have ae:=zh M;have bv:D<c.heap.size:=(Array.getElem?_eq_some_iff.1 aS.o).1;have bw:J.heap[D]?=some (.deferred (some [])):=(M.block D (by simp;omega) (fun e=>by have:=P.o D e.symm;have:=z.o;omega)).trans ((Below.heap_alloc c _ D bv).trans aS.o);clear u M G ab
  gi_wp2
  have aG:=(KeepsOthers.setCell J (zA (S+1+1) 0) (.slice (zO f 0) (n+1) p)).same D _ bw rfl;refine ⟨by simp,.inl ⟨_,_,rfl,run_takeDeferred aG,?_⟩⟩;have aJ:=cell_kept (World.cell?_setCell_same' J (zA (S+1+1) 0) (.slice (zO f 0) (n+1) p) (by rw [aw];rfl)) (grownBy_putObj' _ D (.deferred none)) (fun r e=>by cases e;exact ⟨_,aG,rfl⟩);have aC:Zj b x=yL b 0 x:=by
   unfold Zj;rw [<-R.o,To fun i t=>Int.not_lt.2 (af.o ⟨i,t⟩ (Ra (Nat.le_refl _) t (by omega)))]
  have bf:=U.o.kept (grownBy_setCell' J (S+1+1) (.slice (zO f 0) (n+1) p)) (Or.inr fun e=>ak.o.not_row (by decide) U.o e.symm);refine ⟨.slice (zO f 0) (n+1) p,?_,f,p,rfl,?_,?_,al.o⟩
  ·simp [results,Tryz.f146,go_sem,aJ]
  ·rw [aC];exact ownsRow_putObj bf _ aG rfl
  exact xE (TS _ (za E.o (d.o.alloc d.o.size _)) ae.o (by show w.heap.size<=S+1+1;omega)) (grownBy_putObj' _ D _) (fun j e=>by cases e;have:=E.o.size;omega)
 case stop =>
  rintro D bp aN c bu ⟨j,bV,rfl⟩ ⟨rfl,a6,y,f,p,W,ax,ay,az,ai,aA,aB⟩ L
  gi_wp2
  refine ⟨by simp,.inl ⟨_,_,rfl,run_takeDeferred L,?_⟩⟩;have aJ:=cell_kept az (grownBy_putObj' _ D (.deferred none)) (fun r e=>by cases e;exact ⟨_,L,rfl⟩);obtain ⟨O,rfl⟩:∃ O,j=O+1:=by
   cases j with
   | zero=>simp [dn] at W
   | succ O=>exact ⟨O,rfl⟩
  rw [dn,dif_pos (by omega)] at W;obtain ⟨rfl,bq⟩:=List.append_inj' W rfl;obtain ⟨y,A⟩:=y;have bs:n-1-O=y:=by simpa using bq
  subst bs;have aC:Zj b x=yL b (n-1-O+1) x:=by
   unfold Zj;rw [<-R.o,P9 (m:=n-1-O) (by omega) ay fun i t hn=>Int.not_lt.2 (ax ⟨i,hn⟩ (Ra (by omega) hn (by omega)))]
  refine ⟨.slice (zO f 0) (n+1) p,?_,f,p,rfl,?_,?_,aB⟩
  ·simp [results,Tryz.f146,go_sem,aJ]
  ·rw [aC];exact ownsRow_putObj ai _ L rfl
  exact xE aA (grownBy_putObj' _ D _) (fun j e=>by cases e;have:=E.o.size;omega)
def ZD (X:Bk) (c:Int):Bool:=!zQ (fun i=>!decide (rN X.bs i<c)) X.bs.length
def Rq.from (r:Rq) (c:Int):Rq:=⟨r.queue,max r.fr c,r.un,r.kind,r.pa,r.pn,r.pc,r.ps⟩
def y9 (c:Int) (l:QL) (b:BL) (X:Bk):zd×Bool:=if ZD X c=true then ([],false) else yU l b (X.rq.from c)
theorem Og (w:World) (S:Nat) (c:Int) (f:w.cell? (zA S 0)=some (zI c)) (x y:Int) :
 zC 181 #[.agg #[zI x,zI y],.pointer (zO S 0)] w fun e w'=>e=.returned (.bool (decide (y<c)))/\Below w.heap.size w w':=by
 obtain ⟨b,a⟩:=qB (w.alloc (.cells #[zI x,zI y] 62));have d:zL w b:=by rw [a];exact zr _ _
 have i:=cell_later d f;rw [a] at i;have g:=zh d;have h:=zh a;clear d a f;go_enter Tryz.func181,Tryz.ntmps181;go_wp2;go_ret;rw [<-h.o];exact ⟨rfl,g.o⟩
theorem NR (w:World) (c n:Int) (p:Option Addr) (r q:Nat) (l:QL) (j:Option Addr) (m k:Nat) (b:BL) (h:zY w p r q l j m k b) (X:Bk) (an:zH w X.rq) (Y:RunsIn w X.ba X.bn X.bc X.bs) (aA:0<X.bs.length) :
 zC 147 #[.agg (zS c n p r q j m k),.agg #[zI X.id,zI X.rq.queue,zI X.rq.fr,zI X.rq.un,zI X.rq.kind,.slice X.rq.pa X.rq.pn X.rq.pc,.slice X.ba X.bn X.bc]] w fun e w'=>ZB w w' e (y9 c l b X):=by
 obtain ⟨S,aj⟩:=qA (w.heap.size);obtain ⟨d,t⟩:=qB (w.alloc (.cells (zS c n p r q j m k) 40));obtain ⟨f,B⟩:=qB (d.alloc (.cells (zB X) 60));have aq:d.heap.size=S+1:=by rw [t];simp [aj]
 have b1:zL w d:=by rw [t];exact zr _ _
 have Q:zL d f:=by rw [B];exact zr _ _
 have aa:zj f S (zI c) (zI n) (.slice p r q) (.slice j m k):=by
  have:zj d S (zI c) (zI n) (.slice p r q) (.slice j m k):=by rw [t,<-aj];exact zj.new w _ _ _ _
  exact this.later Q
 have ab:ww f (S+1) X:=by rw [B,<-aq];exact heap_alloc_new d _
 have V:zL w f:=za b1 Q;have U:f=(w.alloc (.cells (zS c n p r q j m k) 40)).alloc (.cells (zB X) 60):=by rw [B,t]
 have ap:=Y.len;have N:=WG 181 #[.pointer (zO S 0)] (fun _ y=>!decide (y<c)) (fun args w=>by go_simp) f X.ba X.bn X.bc X.bs (Y.later V) (by omega) (fun w' aB x y=>by
  rw [Bool.not_not];exact Og w' S c (cell_later aB aa.cells.1) x y)
 have ai:(!zQ (fun i=>!decide (rN X.bs i<c)) X.bn)=ZD X c:=by unfold ZD;rw [ap]
 rw [ai] at N;have af:=zh fun ag (ak:zL w ag)=>XN ag c n p r q l j m k b (h.later ak) (X.rq.from c) (zH.later an ak);have v:=zh N;have ae:=zh U;have ad:=zh V;have ay:=zh aa;have az:=zh ab;obtain ⟨C,D,E,F,G,H,I⟩:=ab.cells;rw [U] at C D E F G H I;clear t B aq b1 Q aa ab V U ap N ai h an Y aA;cases g:ZD X c with
 | true =>
  have s:y9 c l b X=([],false):=by unfold y9;rw [if_pos g]
  rw [s];rw [g] at v;clear g s;go_enter Tryz.func147,Tryz.ntmps147;go_wp2_with fail
  rw [<-ae.o];refine v.o.mono ?_;rintro e u ⟨rfl,a⟩;have J:=zh (za ad.o a);clear a C D E F G H I;go_wp2;go_ret2
  exact ⟨none,0,0,rfl,Tr _ _,J.o⟩
 | false =>
  have s:y9 c l b X=yU l b (X.rq.from c):=by unfold y9;rw [if_neg (by rw [g];decide)]
  rw [s];rw [g] at v;obtain ⟨Z,am⟩:=qA (yU l b (X.rq.from c));rw [am] at af ⊢;clear g s am;go_enter Tryz.func147,Tryz.ntmps147;go_wp2_with fail
  rw [<-ae.o];refine v.o.mono ?_;rintro e u ⟨rfl,a⟩;have J:=zh (za ad.o a);have M:=zh (ay.o.later a);have ax:=zh (az.o.later a);clear a C D E F G H I;obtain ⟨aL,aM,aN,aO⟩:=M.o.cells;obtain ⟨C,D,E,F,G,H,I⟩:=ax.o.cells;obtain ⟨P,R⟩:=qB (u.alloc (.cells (zR X.rq) 24));obtain ⟨z,A⟩:=qB (u.alloc (.cells #[zI X.rq.queue,zI (max X.rq.fr c),zI X.rq.un,zI X.rq.kind,.slice X.rq.pa X.rq.pn X.rq.pc] 24));have al:zL u P:=by rw [R];exact zr _ _
  have W:zL u z:=by rw [A];exact zr _ _
  obtain ⟨aC,aD,aE,aF⟩:=(M.o.later al).cells;obtain ⟨aG,aH,aI,aJ⟩:=(M.o.later W).cells;rw [R] at aC aD aE aF;have L:=zh (za J.o W);have aw:=zh A;rw [A] at aG aH aI aJ;have ah:X.rq.from c=⟨X.rq.queue,max X.rq.fr c,X.rq.un,X.rq.kind,X.rq.pa,X.rq.pn,X.rq.pc,X.rq.ps⟩:=rfl;have O:=af.o z L.o;rw [ah] at O;have av:=zh O;clear R A al W O ah;go_wp2_with fail
  rw [<-aw.o];refine av.o.mono ?_;rintro e aK ⟨fa,fm,fc,rfl,ao,a⟩;have au:Zh (wk w.heap.size aK fa fm fc Z.1):=zh (ao.mono L.o.size);have ar:=zh (za L.o a);clear a ao;go_wp2;go_ret2
  exact ⟨fa,fm,fc,rfl,au.o,ar.o⟩
end Go.Proofs.YtckpdfkobdgjeaaGreatDoor
