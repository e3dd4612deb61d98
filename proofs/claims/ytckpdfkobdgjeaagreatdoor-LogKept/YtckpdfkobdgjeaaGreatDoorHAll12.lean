/- Several texts in one: CutI, CutP. -/
import Derived.WalkKit
import Derived.Lib.Walk
import Derived.Lib.AppendZerosOnto
import Derived.Lib.Overlaps
import Derived.Deep.AppendLies
import Derived.Test.YtckpdfkobdgjeaaGreatDoorHAll11
namespace Go.Proofs.YtckpdfkobdgjeaaGreatDoor
set_option maxRecDepth 100000
set_option maxHeartbeats 4000000
open Go.RowKit Go.Shelf
open Go.RowKit Go.Shelf
attribute [local go_sem] Oper.semAt_some
def yL (b:BL) (i:Nat) (x:Bk):BL:=b.take i++x::b.drop i
theorem YH {b:BL} {i:Nat} (x:Bk) (a:i<=b.length):(yL b i x).length=b.length+1:=by simp [yL];omega
theorem TM {b:BL} {i:Nat} (x:Bk) (a:i<=b.length):ze (yL b i x)=(ze b).take (i*7)++zx x++(ze b).drop (i*7):=by
 unfold yL;rw [xw,YW b i a,YV b i a,List.append_assoc];rfl
theorem yX (x:Bk):(zx x).length=7:=rfl
theorem TL (x:Bk):∀ v∈zx x,v.oneCell'=true:=by
 have:=y7 [x];simpa [ze] using this
def PI (w w':World) (e:Ending) (B n:Nat) (row:Option Nat) (b':BL):Prop:=∃ g' k',e=.returned (.slice (zO g' 0) (n+1) k')/\w'.ownsRow B 60 7 (.slice (zO g' 0) (n+1) k') (n+1) (ze b')/\w.grownBy w' row/\(row=some g'\/w.heap.size<=g')
theorem Uv (w:World) (s:TypeId) (g o c f:Nat) (a:Addr) (d r:Nat) (b:Array Value) (cs:List Value)
 (hg:w.heap[g]?=some (.cells b 60 (0,0))) (hn:cs.length=Nat.min d c*7) (m:∀ j v,cs[j]?=some v->w.cell? (a.add j)=some v) (i:o+cs.length<=b.size) (h:∀ v∈cs,v.oneCell'=true) :
 (Builtin.copy_ #[38,38] s #[.slice (zO g o) c f,.slice (some a) d r]).run Tryz.prog w =
  .ok (goInt (Nat.min d c)) (w.setRow g (b.toList.take o++cs++b.toList.drop (o+cs.length)).toArray):=by
 have l:=run_loadCells_list (P:=Tryz.prog) w a cs m;have n:=run_storeCells_at Tryz.prog g o 60 cs 0 b w hg (by simpa using i) h;obtain ⟨q,k,e⟩:=Option.map_eq_some_iff.1 Z5;simp only [Prod.mk.injEq] at e;have p:q.size=7:=e.2.1;simp [Builtin.copy_,run_underlying Tryz.underlying38,Builtin.lenOf,Builtin.firstCells,sizeOf,typeInfo,k,p,<-hn,l,n]
theorem Jb {a:List Value} {b:BL} {n i k:Nat} (x:Bk) (hn:n=b.length) (m:i<=n) (o:n+1<=k) (e:a.length=k*7) (j:a.take (n*7)=ze b) :
 let c1:=a.take ((i+1)*7)++(ze b).drop (i*7)++a.drop ((i+1)*7+((ze b).drop (i*7)).length)
 (c1.take (i*7)++zx x++c1.drop (i*7+(zx x).length)).take ((n+1)*7)=ze (yL b i x)/\(c1.take (i*7)++zx x++c1.drop (i*7+(zx x).length)).length=k*7/\c1.length=k*7:=by
 intro c1;have g:(ze b).length=n*7:=by rw [zE,hn]
 have d:((ze b).drop (i*7)).length=n*7-i*7:=by rw [List.length_drop,g]
 have c:(a.take ((i+1)*7)).length=(i+1)*7:=by rw [List.length_take,e];omega
 have h:c1.length=k*7:=by
  show (_++_++_:List Value).length=_;rw [List.length_append,List.length_append,c,d,List.length_drop,e];omega
 have l:c1.take (i*7)=(ze b).take (i*7):=by
  show (a.take ((i+1)*7)++_++_).take (i*7)=_;rw [List.append_assoc,List.take_append_of_le_length (by rw [c];omega),List.take_take,<-j,List.take_take]
  congr 1
  omega
 have f:c1.drop (i*7+(zx x).length)=(ze b).drop (i*7)++a.drop ((n+1)*7):=by
  show (a.take ((i+1)*7)++(ze b).drop (i*7)++a.drop ((i+1)*7+((ze b).drop (i*7)).length)).drop (i*7+(zx x).length)=_;rw [yX,List.append_assoc,List.drop_append_of_le_length (by rw [c];omega),List.drop_eq_nil_of_le (by rw [c];omega),List.nil_append,d]
  congr 2
  omega
 rw [l,f];refine ⟨?_,?_,h⟩
 ·rw [TM x (by omega),<-List.append_assoc,List.take_append_of_le_length (by simp [yX];omega)];apply List.take_of_length_le;simp [yX];omega
 ·simp [yX];omega
theorem PJ (w:World) (B g k L:Nat) (b:BL) (n:Nat) (x:Bk) (d:Array Value) (hn:n=b.length) (ab:n<=12) (i:Nat) (V:i<n) (N:n+1<=k) (O:k<=maxLen) (hg:w.heap[g]?=some (.cells d 60 (0,0))) (D:d.size=k*7) (G:d.toList.take (n*7)=ze b) (U:B<=g)
 (m:w.heap[L]?=some (.cells (zx x).toArray 60 (0,0))) (P:L≠g) :
 zC 180 #[.slice (zO g 0) n k,zI i,.slice (zO L 0) 1 1] w fun e w'=>e=.returned (.slice (zO g 0) (n+1) k)/\w'.ownsRow B 60 7 (.slice (zO g 0) (n+1) k) (n+1) (ze (yL b i x))/\w.grownBy w' (some g):=by
 have M:d.toList.length=k*7:=by rw [Array.length_toList,D]
 have J:(ze b).length=n*7:=by rw [zE,hn]
 obtain ⟨s,t,u⟩:=Jb x hn (Nat.le_of_lt V) N M G;have ak:k<=9223372036854775807:=by unfold maxLen at O;omega
 have E:((ze b).drop (i*7)).length=(n-i)*7:=by rw [List.length_drop,J];omega
 have Q:∀ j v,(ze b)[j]?=some v->w.cell? (zA g j)=some v:=fun j v c=>by
  rw [cell_of_row w g j _ _ _ hg,<-Array.getElem?_toList];rw [<-G,List.getElem?_take] at c
  split at c
  ·exact c
  cases c
 have Y:∀ lb r,(callFunc 192 #[.slice (zO L 0) 1 1,.slice (zO g ((i+1)*7)) lb r]).run Tryz.prog w=.ok (.value (.bool false)) w:=fun lb r=>by
  rw [run_callFunc_extern Tryz.func192 (by kernel_rfl) (by kernel_rfl) (by kernel_rfl) (e:=Extern.SlicesOverlaps.overlaps #[38,38] #[4]) (by kernel_rfl)];rw [Lib.run_overlaps_apart w 38 4 60 Tryz.underlying38 7 (fun aa=>by
   obtain ⟨aq,W,e⟩:=Option.map_eq_some_iff.1 Z5;simp only [Prod.mk.injEq] at e;simp [sizeOf,typeInfo,W,e.2.1]) (zA L 0) (zA g ((i+1)*7)) 1 1 lb r P 60 60 7 (k*7) (by simp [World.shape?,m,zx]) (by simp [World.shape?,hg,D]) (by omega) (frozen_of_row w L 0 _ _ m) (frozen_of_row w L 7 _ _ m)]
  rfl
 obtain ⟨c1,z⟩:=qB (d.toList.take ((i+1)*7)++(ze b).drop (i*7)++d.toList.drop ((i+1)*7+((ze b).drop (i*7)).length));simp only [<-z] at s t u;have A:∀ h f H,(Builtin.copy_ #[38,38] h #[.slice (zO g ((i+1)*7)) (n+1-(i+1)) f,.slice (zO g (i*7)) (n+1-i) H]).run Tryz.prog w.drew=.ok (goInt (Nat.min (n+1-i) (n+1-(i+1)))) (w.drew.setRow g c1.toArray):=fun h f H=>by
  rw [z];refine Uv w.drew h g ((i+1)*7) (n+1-(i+1)) f (zA g (i*7)) (n+1-i) H d _ hg ?_ ?_ ?_ (fun v Z=>y7 b v (List.mem_of_mem_drop Z))
  ·rw [E]
   congr 1
   simp only [Nat.min_def]
   split <;> omega
  ·intro j v c;rw [List.getElem?_drop] at c;rw [Addr.add_lit];exact Q _ v c
  rw [E,D];omega
 obtain ⟨a,p⟩:=qB (w.drew.setRow g c1.toArray);have F:a.heap[g]?=some (.cells c1.toArray 60 (0,0)):=by rw [p];exact setRow_heap w.drew g d _ _ _ hg
 have I:a.heap[L]?=some (.cells (zx x).toArray 60 (0,0)):=by rw [p];exact (setRow_other w.drew g L _ P).trans m
 have C:∀ h f,(Builtin.copy_ #[38,38] h #[.slice (zO g (i*7)) (n+1-i) f,.slice (zO L 0) 1 1]).run Tryz.prog a=.ok (goInt (Nat.min 1 (n+1-i))) (a.setRow g (c1.toArray.toList.take (i*7)++zx x++c1.toArray.toList.drop (i*7+(zx x).length)).toArray):=fun h f=>by
  refine Uv a h g (i*7) (n+1-i) f (zA L 0) 1 1 c1.toArray _ F ?_ ?_ ?_ (TL x)
  ·rw [yX];have:Nat.min 1 (n+1-i)=1:=(by simp only [Nat.min_def];split <;> omega);rw [this]
  ·intro j v c;rw [Addr.add_lit,Nat.zero_add,cell_of_row a L j _ _ _ I];simpa using c
  rw [yX];simp [u];omega
 rw [<-p] at A;obtain ⟨l,q⟩:=qB (a.setRow g (c1.toArray.toList.take (i*7)++zx x++c1.toArray.toList.drop (i*7+(zx x).length)).toArray);rw [<-q] at C;have ao:¬((i:Int)=(n:Int)):=by omega
 have ap:¬((k:Int)<(n:Int)+1):=by omega
 have am:IntKind.i64.wrap ((i:Int)+1)=(i:Int)+1:=by rw [IntKind.wrap_i64];omega
 have ad:(0:Int)<=(i:Int)+1:=by omega
 have aj:i<=n:=by omega
 have al:((i:Int)+1).toNat=i+1:=by omega
 have ae:¬(k=i+1):=by omega
 have af:(i:Int)<=(n:Int)+1:=by omega
 have ag:¬(k=i):=by omega
 have S:Zh (l.ownsRow B 60 7 (.slice (zO g 0) (n+1) k) (n+1) (ze (yL b i x))/\w.grownBy l (some g)):=by
  refine zh ⟨⟨by rw [zE,YH x (by omega)];omega,.inr ⟨g,k,_,rfl,U,by rw [q];exact setRow_heap a g _ _ _ _ F,N,O,by simpa using t,by simpa using s⟩⟩,?_⟩;rw [q,p];refine ⟨rfl,rfl,rfl,by simp [World.setRow],fun y an X=>?_⟩;have R:y≠g:=fun e=>X (by rw [e]);rw [setRow_other _ g y _ R,setRow_other _ g y _ R];rfl
 have ah:(Builtin.copy_ #[38,38] 3 #[.slice (zO g ((i+1)*7)) (n-i) (k-(i+1)),.slice (zO g (i*7)) (n+1-i) (k-i)]).run Tryz.prog w.drew=.ok (goInt (Nat.min (n+1-i) (n+1-(i+1)))) a:=by
  have:=A 3 (k-(i+1)) (k-i);rw [show n+1-(i+1)=n-i by omega] at this ⊢;exact this
 have ai:(Builtin.copy_ #[38,38] 3 #[.slice (zO g (i*7)) (n+1-i) (k-i),.slice (zO L 0) 1 1]).run Tryz.prog a=.ok (goInt (Nat.min 1 (n+1-i))) l:=C 3 (k-i);clear q p F I s t u z Q E J M m hg G hn A C;go_enter Tryz.func180,Tryz.ntmps180;go_wp2_with (simp only [Y])
 go_region
 go_wp2;go_ret;exact ⟨rfl,S.o⟩
theorem MZ {b:BL} {n i d:Nat} (x:Bk) (hn:n=b.length) (m:i<=n) (l:n+1<=d) (c:List Value) (j:c.length=d*7) (f:c.take (i*7)=(ze b).take (i*7)) :
 let c1:=c.take (i*7)++zx x++c.drop (i*7+(zx x).length)
 (c1.take ((i+1)*7)++(ze b).drop (i*7)++c1.drop ((i+1)*7+((ze b).drop (i*7)).length)).take ((n+1)*7)=ze (yL b i x)/\(c1.take ((i+1)*7)++(ze b).drop (i*7)++c1.drop ((i+1)*7+((ze b).drop (i*7)).length)).length=d*7/\c1.length=d*7:=by
 intro c1;have g:(ze b).length=n*7:=by rw [zE,hn]
 have e:((ze b).drop (i*7)).length=n*7-i*7:=by rw [List.length_drop,g]
 have a:((ze b).take (i*7)).length=i*7:=by rw [List.length_take,g];omega
 have h:c1.length=d*7:=by
  show (_++_++_:List Value).length=_;rw [f,List.length_append,List.length_append,a,yX,List.length_drop,j];omega
 have k:c1.take ((i+1)*7)=(ze b).take (i*7)++zx x:=by
  show (c.take (i*7)++zx x++c.drop (i*7+(zx x).length)).take ((i+1)*7)=_;rw [f,List.take_append_of_le_length (by rw [List.length_append,a,yX];omega),List.take_of_length_le (by rw [List.length_append,a,yX];omega)]
 rw [k];refine ⟨?_,?_,h⟩
 ·rw [TM x (by omega),List.take_append_of_le_length (by rw [List.length_append,List.length_append,a,e,yX];omega)];apply List.take_of_length_le;rw [List.length_append,List.length_append,a,e,yX];omega
 ·rw [List.length_append,List.length_append,List.length_append,a,e,yX,List.length_drop,h];omega
theorem OJ (w:World) (B g L:Nat) (b:BL) (n:Nat) (x:Bk) (s:Array Value) (hn:n=b.length) (aq:n<=12) (i:Nat) (an:i<n) (hg:w.heap[g]?=some (.cells s 60 (0,0))) (ag:s.toList.take (n*7)=ze b) (S:B<=w.heap.size)
 (F:w.heap[L]?=some (.cells (zx x).toArray 60 (0,0))) :
 zC 180 #[.slice (zO g 0) n n,zI i,.slice (zO L 0) 1 1] w fun e w'=>PI w w' e B n none (yL b i x):=by
 have r:(ze b).length=n*7:=by rw [zE,hn]
 have O:∀ j v,(ze b)[j]?=some v->w.cell? (zA g j)=some v:=fun j v c=>by
  rw [cell_of_row w g j _ _ _ hg,<-Array.getElem?_toList];rw [<-ag,List.getElem?_take] at c
  split at c
  ·exact c
  cases c
 have ab:g<w.heap.size:=(Array.getElem?_eq_some_iff.1 hg).1;have X:L<w.heap.size:=(Array.getElem?_eq_some_iff.1 F).1;obtain ⟨ah,ad,e⟩:=Option.map_eq_some_iff.1 Z5;simp only [Prod.mk.injEq] at e;obtain ⟨ai,aj,Q⟩:=e;have ae:(Builtin.firstCells ah.size i (.slice (zO g 0) i n)).run Tryz.prog w.drew=.ok ((ze b).take (i*7)).toArray w.drew:=by
  rw [aj];refine run_firstCells_some w.drew 7 i (zA g 0) i n ((ze b).take (i*7)) (by rw [List.length_take,r];omega) fun j v c=>?_;rw [Addr.add_lit,Nat.zero_add];rw [List.getElem?_take] at c
  split at c
  ·exact O j v c
  cases c
 obtain ⟨a,t⟩:=qB (grownCap w (n+1) n 60);have V:n+1<=a:=by rw [t];exact grownCap_ge w _ _ _
 have U:a<=maxLen:=by rw [t];exact grownCap_le_maxLen w (n+1) n 60 (by unfold maxLen;omega)
 obtain ⟨k,u⟩:∃ k:Array Value,k=((ze b).take (i*7)).toArray++Builtin.zeroCells Vt.cells (n+1-i)++Builtin.zeroCells Vt.cells (a-(n+1)):=⟨_,rfl⟩;obtain ⟨d,l⟩:=qB (w.drew.alloc (.cells k 60));have af:(Builtin.append_ #[38,3] 38 #[.slice (zO g 0) i n,zI ((n:Int)+1-(i:Int))]).run Tryz.prog w=.ok (.slice (zO w.heap.size 0) (n+1) a) d:=by
  have h:=Lib.run_append_grow_zeros (P:=Tryz.prog) w 38 3 38 60 ah _ .i64 .i64 Tryz.underlying38 Tryz.underlying3 ad ai (zO g 0) i n ((ze b).take (i*7)) ae (n+1-i) (by omega) (by omega) (by omega) (by omega) (by rw [Q];omega) (by rw [Q,show i+(n+1-i)=n+1 by omega];exact growslice_fits (by omega) (by omega));rw [show i+(n+1-i)=n+1 by omega] at h;rw [show (n:Int)+1-(i:Int)=((n+1-i:Nat):Int) by omega,l,u,t];exact h
 have J:k.toList.length=a*7:=by
  rw [u];simp [r];have:=Xb (n+1-i);have:=Xb (a-(n+1));simp at *;omega
 have Y:k.toList.take (i*7)=(ze b).take (i*7):=by
  rw [u];simp only [Array.toList_append,List.append_assoc];rw [List.take_append_of_le_length (by simp [r];omega)];apply List.take_of_length_le;simp;omega
 obtain ⟨C,D,E⟩:=MZ x hn (Nat.le_of_lt an) V k.toList J Y;obtain ⟨c1,M⟩:=qB (k.toList.take (i*7)++zx x++k.toList.drop (i*7+(zx x).length));simp only [<-M] at C D E;have H:d.heap[w.heap.size]?=some (.cells k 60 (0,0)):=by rw [l];exact heap_alloc_new w.drew _
 have W:d.heap[L]?=some (.cells (zx x).toArray 60 (0,0)):=by rw [l];exact (Below.heap_alloc w.drew _ L X).trans F
 have Z:d.heap[g]?=some (.cells s 60 (0,0)):=by rw [l];exact (Below.heap_alloc w.drew _ g ab).trans hg
 obtain ⟨f,m⟩:=qB (d.setRow w.heap.size c1.toArray);have al:(Builtin.copy_ #[38,38] 3 #[.slice (zO w.heap.size (i*7)) (n+1-i) (a-i),.slice (zO L 0) 1 1]).run Tryz.prog d=.ok (goInt (Nat.min 1 (n+1-i))) f:=by
  rw [m,M];refine Uv d 3 w.heap.size (i*7) (n+1-i) (a-i) (zA L 0) 1 1 k _ H ?_ ?_ ?_ (TL x)
  ·rw [yX];have:Nat.min 1 (n+1-i)=1:=(by simp only [Nat.min_def];split <;> omega);rw [this]
  ·intro j v c;rw [Addr.add_lit,Nat.zero_add,cell_of_row d L j _ _ _ W];simpa using c
  rw [yX];rw [Array.length_toList] at J;omega
 have I:f.heap[w.heap.size]?=some (.cells c1.toArray 60 (0,0)):=by rw [m];exact setRow_heap d _ k _ _ _ H
 have aa:f.heap[g]?=some (.cells s 60 (0,0)):=by rw [m];exact (setRow_other d _ g _ (by omega)).trans Z
 have N:((ze b).drop (i*7)).length=(n-i)*7:=by rw [List.length_drop,r];omega
 obtain ⟨q,p⟩:=qB (f.drew.setRow w.heap.size (c1.toArray.toList.take ((i+1)*7)++(ze b).drop (i*7)++c1.toArray.toList.drop ((i+1)*7+((ze b).drop (i*7)).length)).toArray);have am:(Builtin.copy_ #[38,38] 3 #[.slice (zO w.heap.size ((i+1)*7)) (n-i) (a-(i+1)),.slice (zO g (i*7)) (n-i) (n-i)]).run Tryz.prog f.drew=.ok (goInt (Nat.min (n-i) (n-i))) q:=by
  rw [p];refine Uv f.drew 3 w.heap.size ((i+1)*7) (n-i) (a-(i+1)) (zA g (i*7)) (n-i) (n-i) c1.toArray _ I ?_ ?_ ?_ (fun v ao=>y7 b v (List.mem_of_mem_drop ao))
  ·rw [N]
   congr 1
   exact (Nat.min_self _).symm
  ·intro j v c;rw [List.getElem?_drop] at c;rw [Addr.add_lit];have R:=O _ v c;rw [cell_of_row w g _ _ _ _ hg] at R;show f.cell? (zA g (i*7+j))=some v;rw [cell_of_row f g _ _ _ _ aa];exact R
  rw [N];simp [E];omega
 have z:Zh (q.ownsRow B 60 7 (.slice (zO w.heap.size 0) (n+1) a) (n+1) (ze (yL b i x))/\w.grownBy q none):=by
  refine zh ⟨⟨by rw [zE,YH x (by omega)];omega,.inr ⟨w.heap.size,a,_,rfl,S,by rw [p];exact setRow_heap f.drew _ _ _ _ _ I,V,U,by simpa using D,by simpa using C⟩⟩,?_⟩;refine ⟨by rw [p,m,l];rfl,by rw [p,m,l];rfl,by rw [p,m,l];rfl,by rw [p,m,l];simp [World.setRow],fun y ap _=>?_⟩;rw [p,setRow_other _ _ y _ (by omega)];show f.heap[y]?=_;rw [m,setRow_other _ _ y _ (by omega),l];exact Below.heap_alloc w.drew _ y ap
 have aC:¬((i:Int)=(n:Int)):=by omega
 have aD:((n:Int)<(n:Int)+1):=by omega
 have aB:IntKind.i64.wrap ((i:Int)+1)=(i:Int)+1:=by rw [IntKind.wrap_i64];omega
 have au:(0:Int)<=(i:Int)+1:=by omega
 have az:i<=n:=by omega
 have aA:((i:Int)+1).toNat=i+1:=by omega
 have av:¬(a=i+1):=by omega
 have aw:(i:Int)<=(n:Int):=by omega
 have ax:¬(a=i):=by omega
 have ay:¬(n=i):=by omega
 have ar:a<=9223372036854775807:=by unfold maxLen at U;omega
 obtain ⟨A,G⟩:=qA (w.heap.size);rw [G] at af al am z;have ak:=zh G;clear p m l Z W H I aa C D E M O N r F hg ag hn J Y u ae ai aj Q ad t G ab X S;go_enter Tryz.func180,Tryz.ntmps180;go_wp2_with (at_builtin;refine Lib.wpList_append_run _ rfl _ _ _ _ rfl _ _ rfl rfl _ _ af ?_)
 go_region
 go_wp2;go_ret;exact ⟨A,a,rfl,z.o.1,z.o.2,Or.inr (Nat.le_of_eq ak.o)⟩
theorem Gh {b:BL} {n:Nat} (x:Bk) (hn:n=b.length):yL b n x=b++[x]:=by
 unfold yL;rw [hn,List.take_length,List.drop_length]
theorem Mm (w:World) (B L:Nat) (v:Value) (b:BL) (n:Nat) (x:Bk) (hn:n=b.length) (D:n<=12) (d:w.ownsRow B 60 7 v n (ze b)) (u:B<=w.heap.size)
 (f:w.heap[L]?=some (.cells (zx x).toArray 60 (0,0))) :
 zC 180 #[v,zI n,.slice (zO L 0) 1 1] w fun e w'=>PI w w' e B n v.ownBlock (yL b n x):=by
 obtain ⟨A,l,e⟩:=Option.map_eq_some_iff.1 Z5;simp only [Prod.mk.injEq] at e;obtain ⟨p,q,r⟩:=e;obtain ⟨a,m,w',t,c,i,h,_⟩:=run_append_lies w 38 38 B 60 A _ 7 88 Tryz.underlying38 l p q r (by rfl) (by omega) v n (ze b) d (zA L 0) 1 1 (ze [x]) rfl (fun j G y=>by
  rw [Addr.add_lit,Nat.zero_add,cell_of_row w L j _ _ _ f];simpa [ze] using y) (y7 [x]) (by omega) (by unfold maxLen;omega) (by omega) u w.heap.size rfl
 rw [<-xw,<-Gh x hn] at c;have s:Zh (w'.ownsRow B 60 7 (.slice (zO a 0) (n+1) m) (n+1) (ze (yL b n x))/\w.grownBy w' v.ownBlock/\(v.ownBlock=some a\/w.heap.size<=a)):=zh ⟨c,i,h.imp id (fun e=>Nat.le_of_eq e.symm)⟩;rcases d.2 with ⟨rfl,rfl⟩ | ⟨g,k,C,rfl,_,_,F,z,_,_⟩
 ·clear c i d hn f h p q r l;go_enter Tryz.func180,Tryz.ntmps180;go_wp2_with (at_builtin;refine Lib.wpList_append_run _ rfl _ _ _ _ rfl _ _ rfl rfl _ _ t ?_)
  go_ret;exact ⟨a,m,rfl,s.o⟩
 ·have E:k<=9223372036854775807:=by unfold maxLen at z;omega
  clear c i d hn f h p q r l;go_enter Tryz.func180,Tryz.ntmps180;go_wp2_with (at_builtin;refine Lib.wpList_append_run _ rfl _ _ _ _ rfl _ _ rfl rfl _ _ t ?_)
  all_goals
   go_ret;exact ⟨a,m,rfl,s.o⟩
theorem SI (w:World) (B L:Nat) (v:Value) (b:BL) (n:Nat) (x:Bk) (hn:n=b.length) (f:n<=12) (o:w.ownsRow B 60 7 v n (ze b)) (l:B<=w.heap.size)
 (h:w.heap[L]?=some (.cells (zx x).toArray 60 (0,0))) (z:v.ownBlock≠some L) (i:Nat) (C:i<=n) :
 zC 180 #[v,zI i,.slice (zO L 0) 1 1] w fun e w'=>PI w w' e B n v.ownBlock (yL b i x):=by
 by_cases e:i=n
 ·subst e;exact Mm w B L v b i x hn f o l h
 ·have m:i<n:=by omega
  rcases o.2 with ⟨rfl,rfl⟩ | ⟨g,k,j,rfl,r,hg,D,u,s,p⟩
  ·omega
  by_cases t:n+1<=k
  ·refine (PJ w B g k L b n x j hn f i m t u hg s p r h (fun e=>z (by rw [e];rfl))).mono ?_;rintro e w' ⟨rfl,d,a⟩;exact ⟨g,k,rfl,d,a,Or.inl rfl⟩
  obtain rfl:k=n:=by omega
  refine (OJ w B g L b k x j hn f i m hg p l h).mono ?_;rintro e w' ⟨q,k',rfl,d,a,c⟩;refine ⟨q,k',rfl,d,⟨a.os,a.tape,a.output,a.size,fun y A _=>a.block y A (by simp)⟩,Or.inr ?_⟩;rcases c with c | c
  ·cases c
  exact c
def XY (b:BL) (id:Int):Nat->Nat
 | 0=>0
 | m+1=>if (bk b m).id<id then m+1 else XY b id m
theorem Oa (b:BL) (a:Int):∀ m,XY b a m<=m
 | 0=>Nat.le_refl _
 | m+1=>by
  rw [XY]
  split
  ·exact Nat.le_refl _
  exact Nat.le_succ_of_le (Oa b a m)
theorem P9 {b:BL} {a:Int}:∀ {n m:Nat},m<n->(bk b m).id<a->(∀ i,m<i->i<n->¬(bk b i).id<a)->XY b a n=m+1
 | 0,m,h,_,_=>by omega
 | n+1,m,h,h1,h2=>by
  rw [XY];by_cases e:m=n
  ·subst e;rw [if_pos h1]
  rw [if_neg (h2 n (by omega) (by omega))];exact P9 (by omega) h1 fun i c hn=>h2 i c (by omega)
theorem To {b:BL} {a:Int}:∀ {n:Nat},(∀ i,i<n->¬(bk b i).id<a)->XY b a n=0
 | 0,_=>rfl
 | n+1,h=>by
  rw [XY,if_neg (h n (by omega))];exact To fun i c=>h i (by omega)
def Zj (b:BL) (x:Bk):BL:=yL b (XY b x.id b.length) x
theorem zy {w a:World} {B n:Nat} {e:TypeId} {z:Nat} {v:Value} {b:List Value} (h:w.ownsRow B e z v n b) (f:Below w.heap.size w a):a.ownsRow B e z v n b:=by
 refine ⟨h.1,?_⟩;rcases h.2 with hn | ⟨g,cap,c,rfl,d,hg,rest⟩
 ·exact .inl hn
 exact .inr ⟨g,cap,c,rfl,d,(f.block g (Array.getElem?_eq_some_iff.1 hg).1).trans hg,rest⟩
theorem VH {w:World} {B n g k:Nat} {b:BL} (hn:n=b.length) (h:w.ownsRow B 60 7 (.slice (zO g 0) n k) n (ze b)):n<=k/\k<=9223372036854775807/\∀ i,i<n->∀ j a,(zx (bk b i))[j]?=some a->w.cell? (zA g (0+i*7+j))=some a:=by
 rcases h.2 with ⟨e,_⟩ | ⟨q,cap,p,e,r,hg,l,m,t,o⟩
 ·cases e
 simp only [Value.slice.injEq,Option.some.injEq,Addr.mk.injEq,and_true] at e;obtain ⟨rfl,_,rfl⟩:=e;refine ⟨l,by unfold maxLen at m;omega,fun i s j a d=>?_⟩;have f:j<7:=(List.getElem?_eq_some_iff.1 d).1;rw [cell_of_row w g _ _ _ _ hg,<-Array.getElem?_toList];have c:=Za b i j (by omega) f;rw [<-o,List.getElem?_take,if_pos (by omega)] at c;rw [Nat.zero_add,c];exact d
theorem Ow (n:Nat) (j d k:Nat) (a:Option Addr) (b:List (BN 0)->World->Prop) (c:World) (l:c.cell? (zA d 0)=some (.slice a 0 k)) (g:b [] c) :
 CallsIn Fence.wide n Tryz.prog 190 #[.func (.yield j) #[] #[],.pointer (zO d 0)] c fun e f=>(∃ v,e=.returned v)/\b [] f:=by
 refine callsIn_of_wp Tryz.func190 rfl trivial ?_ rfl;simp only [Tryz.ntmps190,List.size_toArray,List.length_cons,List.length_nil,Nat.reduceAdd,Nat.reduceSub,Array.replicate_succ,Array.replicate_zero,List.push_toArray,List.append_toArray,List.nil_append,List.cons_append]
 gi_wp2
 gi_loopw [3] (fun i wr=>i=zI (-1)/\b [] wr) (fun _ _=>0)
 case atStart=>exact ⟨rfl,g⟩
 case round =>
  obtain ⟨rfl,h⟩:=hrel
  gi_wp2
  go_end0
  exact ⟨⟨_,rfl⟩,h⟩
theorem Oy (n:Nat) (hn:1<=n) (f g B:Nat) (bn k:Nat) (b:BL) (t:bn=b.length) (q:bn<=12) (w:World) (z:w.ownsRow B 60 7 (.slice (zO g 0) bn k) bn (ze b)) (h:w.cell? (zA f 0)=some (.slice (zO g 0) bn k)) :
 SeqStopsK Fence.wide n Tryz.prog 190 #[.pointer (zO f 0)] (fun x:BN bn=>#[zI (x.1:Int),Fi (bk b x.1)]) (Below w.heap.size) (fun F=>F=dn bn bn) (fun C=>∃ k,k<=bn/\C=dn bn k) bn w:=fun l j p m a _ _ s o=>by
 have r:f<w.heap.size:=block_lt_of_cell h;obtain ⟨D,E,c⟩:=VH t z;by_cases A:0<bn
 ·have v:g<w.heap.size:=block_lt_of_cell (c 0 A 0 _ rfl);exact Ox n hn l f w.heap.size g 0 bn k b q D E v r j p s m (cell_later a h) (fun i d=>⟨cell_later a (c i d 0 _ rfl),cell_later a (c i d 1 _ rfl),cell_later a (c i d 2 _ rfl),cell_later a (c i d 3 _ rfl),cell_later a (c i d 4 _ rfl),cell_later a (c i d 5 _ rfl),cell_later a (c i d 6 _ rfl)⟩) o
 ·obtain rfl:bn=0:=by omega
  exact (Ow n l f k _ j m (cell_later a h) o).mono fun e G ⟨u,y⟩=>⟨u,.inl ⟨_,rfl,y⟩⟩
end Go.Proofs.YtckpdfkobdgjeaaGreatDoor
