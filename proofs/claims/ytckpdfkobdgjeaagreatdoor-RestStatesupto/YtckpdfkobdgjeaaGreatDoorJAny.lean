/- A region that draws its order, walked by what each operation yields: whatever the order, each operation finds what it looks at. One law for all: an operation may be passed by (its guard says no), it may change what lies from block B0 on, and spoil what others have yielded; plain, and in a round of a loop over a function. -/
import Derived.Test.YtckpdfkobdgjeaaGreatDoorJMath
import Derived.Orders
import Derived.KernelRfl
import Derived.WalkKit
import Derived.Below
import Derived.WalkSpells
import Derived.WalkLawsBesides
import Derived.Deep.QuietTactic
import Derived.BigQuiet
import Derived.OrdersIn
import Derived.TacticsIn
import Derived.RangeFuncCalls
namespace Go.Proofs.YtckpdfkobdgjeaaGreatDoor
open Go.RowKit
def yt (o:Oper) (j:Nat):Bool:=o.after.toList.any fun e=>Region.binds .any e&&(e.on==j)
def yQ (ops:Array Oper) (d:Nat):Bool:=ops.all fun o=>o.dst != some d
def zu (P:Program) (o:Oper) (ev:Operand->Value) (w:World) (D:Value->World->Prop):Prop :=
 (∃ v w',(execOp ev o).run P w=.ok (.value v) w'/\D v w'/\Below w.heap.size w w') \/
 (∃ f args,(execOp ev o).run P w=.ok (.enter f args) w/\Calls P f args w fun e w'=>∃ v,e=.returned v/\D v w'/\Below w.heap.size w w')
theorem zs {P:Program} {o:Oper} {ev:Operand->Value} {w:World} {D:Value->World->Prop} {v:Value} (h:(execOp ev o).run P w=.ok (.value v) w) (d:D v w):zu P o ev w D:=.inl ⟨v,w,h,d,.refl _ _⟩
def Yf (ops:Array Oper) (gs:List (Nat×Bool)) (N:Nat):Bool :=
 ((List.range ops.size).all fun i=>match ops[i]? with
  | some o=>(o.after.all fun e=>!Region.binds .any e||decide (e.on<i))&&(match o.dst with | some d=>decide (d<N) | none=>true)&&(match o.guard with | none=>true | some g=>yt o g.1&&gs.contains g)
  | none=>true) &&
 decide ((ops.toList.filterMap (·.dst)).Nodup)
theorem Xq {b:Array Oper} {gs:List (Nat×Bool)} {c:Nat} (h:Yf b gs c=true) {i:Nat} {o:Oper} (f:b[i]?=some o) :
 (∀ e∈o.after,Region.binds .any e=true->e.on<i)/\(∀ d,o.dst=some d->d<c)/\(∀ g,o.guard=some g->yt o g.1=true/\g∈gs):=by
 have m:i<b.size:=(Array.getElem?_eq_some_iff.1 f).1;simp only [Yf,Bool.and_eq_true,List.all_eq_true,List.mem_range] at h;have a:=h.1 i m;rw [f] at a;simp only [Bool.and_eq_true,Array.all_eq_true_iff_forall_mem,Bool.or_eq_true,Bool.not_eq_true',decide_eq_true_eq] at a;refine ⟨fun e l j=>(a.1.1 e l).resolve_left (by simp [j]),fun d k=>?_,fun g hg=>?_⟩
 ·have:=a.1.2;rw [k] at this;simpa using this
 ·have:=a.2;rw [hg] at this;simpa using this
theorem NB {a b:Type} [DecidableEq b] {f:a->Option b}:∀ {l:List a},(l.filterMap f).Nodup->∀ {i j:Nat} {x y:a} {d:b},l[i]?=some x->l[j]?=some y->f x=some d->f y=some d->i=j
 | [],_,i,j,x,y,d,hx,_,_,_=>by simp at hx
 | z::l,h,0,0,x,y,d,hx,hy,fx,fy=>rfl
 | z::l,h,0,j+1,x,y,d,hx,hy,fx,fy=>by
  simp at hx;subst hx;rw [List.filterMap_cons,fx,List.nodup_cons] at h;have:d∈l.filterMap f:=List.mem_filterMap.2 ⟨y,List.mem_of_getElem? (by simpa using hy),fy⟩;exact absurd this h.1
 | z::l,h,i+1,0,x,y,d,hx,hy,fx,fy=>by
  simp at hy;subst hy;rw [List.filterMap_cons,fy,List.nodup_cons] at h;have:d∈l.filterMap f:=List.mem_filterMap.2 ⟨x,List.mem_of_getElem? (by simpa using hx),fx⟩;exact absurd this h.1
 | z::l,h,i+1,j+1,x,y,d,hx,hy,fx,fy=>by
  have e:(l.filterMap f).Nodup:=by
   rw [List.filterMap_cons] at h;cases c:f z with
   | none=>rw [c] at h;exact h
   | some q=>rw [c,List.nodup_cons] at h;exact h.2
  have:=NB e (i:=i) (j:=j) (by simpa using hx) (by simpa using hy) fx fy;omega
theorem Pu {a:Array Oper} {gs:List (Nat×Bool)} {b:Nat} (h:Yf a gs b=true) {i j:Nat} {x y:Oper} {d:Nat} (f:a[i]?=some x) (g:a[j]?=some y) (c:x.dst=some d) (e:y.dst=some d):i=j:=by
 simp only [Yf,Bool.and_eq_true,decide_eq_true_eq] at h;exact NB h.2 (by simpa using f) (by simpa using g) c e
structure RInv (ops:Array Oper) (W0:World) (T0:Array Value) (df:List Deferred) (D:Nat->Value->World->Prop) (listed:Array Bool) (a:Act) (w:World):Prop where
 size:listed.size=ops.size
 below:Below W0.heap.size W0 w
 df:a.defers=df
 tsize:a.tmps.size=T0.size
 old:∀ d,yQ ops d=true->a.tmps.getD d undef=T0.getD d undef
 got:∀ i o d,ops[i]?=some o->o.dst=some d->listed.getD i false=true->D i (a.tmps.getD d undef) w
def Xv (listed:Array Bool):Nat:=(listed.toList.filter (! ·)).length
theorem Re:∀ {l:List Bool} {i:Nat},l[i]?=some false->((l.set i true).filter (! ·)).length+1=(l.filter (! ·)).length
 | [],i,h=>by simp at h
 | x::l,0,h=>by simp at h;simp [h]
 | x::l,i+1,h=>by
  have:=Re (l:=l) (i:=i) (by simpa using h);simp only [List.set_cons_succ,List.filter_cons]
  split
  ·simp only [List.length_cons];omega
  exact this
theorem Y2 {a:Array Bool} {i:Nat} (h:a.getD i true=false):Xv (a.setIfInBounds i true)+1=Xv a:=by
 have b:i<a.size:=by
  by_cases e:i<a.size
  ·exact e
  simp [e] at h
 obtain ⟨l⟩:=a;simp only [Xv,List.setIfInBounds_toArray];refine Re ?_;simp at b;simpa [b] using h
theorem SY {a:Array Oper} {gs:List (Nat×Bool)} {k:Nat} (h:Yf a gs k=true) {b:Array Bool} (n:b.size=a.size) (m:Region.ready .any a b=[]):∀ i,i<a.size->b.getD i false=true:=by
 intro i
 induction i using Nat.strongRecOn with
 | _ i ih =>
  intro l;cases g:b.getD i false with
  | true=>rfl
  | false =>
   have j:a[i]?=some a[i]:=Array.getElem?_eq_getElem l;have c:=Xq h j;have:i∈Region.ready .any a b:=by
    rw [mem_ready];refine ⟨?_,_,j,fun e f d=>ih e.on (c.1 e f d) (by have:=c.1 e f d;omega)⟩;have:i<b.size:=(by omega);simpa [this] using g
   rw [m] at this;cases this
theorem Qg {c:Array Oper} {T:Array Value} {g d:Nat} {o:Oper} {b:Bool} (i:c[g]?=some o) (f:o.dst=some d) (a:d<T.size) (h:T.getD d undef=.bool b):yielded c T g=some b:=by
 have:T[d]?=some (.bool b):=by
  rw [Array.getElem?_eq_getElem a];have e:T.getD d undef=T[d]:=by simp [a]
  rw [<-e,h]
 simp [yielded,i,f,this]
def Nb (ops:Array Oper) (i j d:Nat):Bool:=match ops[i]?,ops[j]? with
 | some o,some oj=>yt o j&&(oj.dst==some d)
 | _,_=>false
def XA (ops:Array Oper) (i d:Nat):Bool:=match ops[i]? with
 | some o=>o.dst==some d
 | none=>false
def M0 (ops:Array Oper) (gs:List (Nat×Bool)):Bool:=gs.all fun g=>match ops[g.1]? with
 | some o=>o.dst.isSome
 | none=>false
def zc (F:Nat->Oper->Prop):List Oper->Nat->Prop
 | [],_=>True
 | o::l,k=>F k o/\zc F l (k+1)
theorem zc.at {F:Nat->Oper->Prop}:∀ {l:List Oper} {k:Nat},zc F l k->∀ i o,l[i]?=some o->F (k+i) o
 | [],_,_,i,o,h=>by simp at h
 | x::l,k,⟨h1,_⟩,0,o,h=>by simp at h;subst h;exact h1
 | x::l,k,⟨_,h2⟩,i+1,o,h=>by
  have:=zc.at h2 i o (by simpa using h);rwa [show k+(i+1)=k+1+i from by omega]
theorem zc.cons {F:Nat->Oper->Prop} {o:Oper} {l:List Oper} {k:Nat} (a:Nat) (d:k+1=a) (b:F k o) (c:zc F l a):zc F (o::l) k:=by subst d;exact ⟨b,c⟩
def yi:Code->Nat->Option (Array Oper)
 | .region id ops _,k=>if id=k then some ops else none
 | .seq a b,k=>(yi a k).or (yi b k)
 | .cond _ a b,k=>(yi a k).or (yi b k)
 | .block _ b,k=>yi b k
 | .loop b,k=>yi b k
 | .scope b,k=>yi b k
 | .rangeFunc _ _ a b,k=>(yi a k).or (yi b k)
 | _,_=>none
def Ka:Type:={ p:Value->World->Prop // ∀ v w w',p v w->Below w.heap.size w w'->p v w' }
def zl (v:Value):Ka:=⟨fun u _=>u=v,fun _ _ _ h _=>h⟩
def yn (Ds:List Ka) (i:Nat):Value->World->Prop:=(Ds.getD i (zl undef)).1
def xj:List Bool->List Value->Nat->(Nat->Value)->List Value
 | true::bs,v::vs,k,us=>v::xj bs vs (k+1) us
 | false::bs,_::vs,k,us=>us k::xj bs vs (k+1) us
 | _,_,_,_=>[]
theorem Nd {us:Nat->Value} {f:Nat->Bool}:∀ {vs:List Value} {k:Nat},(∀ i,i<vs.length->f (k+i)=true->us (k+i)=vs.getD i undef) ->
 xj ((List.range vs.length).map fun i=>f (k+i)) vs k us=(List.range vs.length).map fun i=>us (k+i)
 | [],k,_=>rfl
 | v::vs,k,h=>by
  have b:=Nd (us:=us) (f:=f) (vs:=vs) (k:=k+1) (fun i d a=>by
   have:=h (i+1) (by simpa using d) (by rwa [show k+(i+1)=k+1+i from by omega]);rw [show k+(i+1)=k+1+i from by omega] at this;simpa using this)
  have e:∀ g:Nat->Bool,(List.range (v::vs).length).map g=g 0::(List.range vs.length).map fun i=>g (i+1):=fun g=>by
   rw [List.length_cons,List.range_succ_eq_map,List.map_cons,List.map_map];rfl
  have c:∀ g:Nat->Value,(List.range (v::vs).length).map g=g 0::(List.range vs.length).map fun i=>g (i+1):=fun g=>by
   rw [List.length_cons,List.range_succ_eq_map,List.map_cons,List.map_map];rfl
  rw [e,c];have j:(fun i=>f (k+(i+1)))=fun i=>f (k+1+i):=by funext i;congr 1;omega
  have l:(fun i=>us (k+(i+1)))=fun i=>us (k+1+i):=by funext i;congr 1;omega
  simp only [j,l];cases a:f (k+0) with
  | true =>
   have:=h 0 (by simp) a;rw [xj,b,this];rfl
  | false=>rw [xj,b];rfl
theorem yb {b:Array Oper} {a T:Array Value} (c:List Bool) (h:(List.range a.size).map (yQ b)=c) (l:T.size=a.size) (j:∀ d,yQ b d=true->T.getD d undef=a.getD d undef) :
 T=(xj c a.toList 0 fun d=>T.getD d undef).toArray:=by
 have:=Nd (us:=fun d=>T.getD d undef) (f:=yQ b) (vs:=a.toList) (k:=0) (fun i n e=>by
  rw [Nat.zero_add] at e ⊢;rw [j i e];simp [List.getD])
 simp only [Nat.zero_add,Array.length_toList] at this;rw [<-h,this];apply Array.ext
 ·simp [l]
 ·intro i g m;simp [g]
def xY (ops:Array Oper) (c:Nat):Nat->List Nat
 | 0=>[]
 | n+1=>if (match ops[n]? with | some o=>yt o c||(xY ops c n).any (yt o) | none=>false)=true then n::xY ops c n else xY ops c n
theorem wg {d:Array Oper} {c:Nat} {g:Array Bool} (b:∀ i o,d[i]?=some o->g.getD i false=true->∀ j,yt o j=true->g.getD j false=true):∀ {n i:Nat},i∈xY d c n->g.getD i false=true->g.getD c false=true
 | 0,i,h,_=>by simp [xY] at h
 | n+1,i,h,hl=>by
  rw [xY] at h;cases a:(match d[n]? with | some o=>yt o c||(xY d c n).any (yt o) | none=>false) with
  | false =>
   rw [a] at h;exact wg b (by simpa using h) hl
  | true =>
   rw [a,if_pos rfl] at h;rcases List.mem_cons.1 h with e | h
   ·subst e;cases f:d[i]? with
    | none=>rw [f] at a;cases a
    | some o =>
     rw [f] at a;simp only [Bool.or_eq_true,List.any_eq_true] at a;rcases a with a | ⟨j,k,a⟩
     ·exact b i o f hl c a
     exact wg b k (b i o f hl j a)
   exact wg b h hl
def dd (cs:List (Nat×List Nat)) (i:Nat):Option (List Nat):=(cs.find? fun x=>x.1==i).map (·.2)
theorem MP {cs:List (Nat×List Nat)} {c:Nat} {b:List Nat} (h:dd cs c=some b):(c,b)∈cs:=by
 unfold dd at h;cases a:cs.find? fun x=>x.1==c with
 | none=>rw [a] at h;cases h
 | some x =>
  rw [a] at h;have d:=List.find?_some a;have e:=List.mem_of_find?_eq_some a;simp at d h;rw [<-d,<-h];exact e
def I6 (cs:List (Nat×List Nat)) (listed:Array Bool) (i:Nat):Prop:=∃ c dead,dd cs c=some dead/\listed.getD c false=true/\dead.contains i=true
def Zo (cs:List (Nat×List Nat)) (i:Nat):Bool:=cs.any fun x=>x.2.contains i
def Vm (o:Oper) (T:Array Value):Value:=match o.dst with
 | some d=>T.getD d undef
 | none=>undef
def LV (ops:Array Oper) (i:Nat):Bool:=match ops[i]? with
 | some o=>o.dst==none
 | none=>false
def Xd (P:Program) (ops:Array Oper) (o:Oper) (ev:Operand->Value) (B0:Nat) (W0 w:World) (D:Nat->Value->World->Prop) (dead:List Nat) (c:Nat):Prop :=
 ∃ v w',((execOp ev o).run P w=.ok (.value v) w'\/(execOp ev o).run P w=.ok .skip w'/\v=undef)/\(o.dst=none->v=undef)/\D c v w'/\Below B0 W0 w'/\∀ i,i≠c->dead.contains i=false->(xY ops c ops.size).contains i=false->∀ u,D i u w->D i u w'
def UE (ops:Array Oper) (cs:List (Nat×List Nat)) (i j:Nat):Bool:=cs.all fun x=>!x.2.contains j||(i==x.1)||(xY ops i ops.size).contains x.1
theorem IJ {b:Array Oper} {cs:List (Nat×List Nat)} {i j:Nat} (h:UE b cs i j=true) {c:Nat} {a:List Nat} (e:dd cs c=some a) (d:a.contains j=true):i=c\/c∈xY b i b.size:=by
 have h:=List.all_eq_true.1 h (c,a) (MP e);simp only [d,Bool.not_true,Bool.false_or,Bool.or_eq_true,beq_iff_eq] at h;rcases h with h | h
 ·exact Or.inl h
 exact Or.inr (List.contains_iff_mem.1 h)
def FH (ops:Array Oper) (cs:List (Nat×List Nat)) (i:Nat):Bool:=cs.all fun x=>(i==x.1)||(xY ops i ops.size).contains x.1
def QM (P:Program) (ops:Array Oper) (o:Oper) (ev:Operand->Value) (B0:Nat) (W0 w:World) (D:Nat->Value->World->Prop) (cs:List (Nat×List Nat)) (i:Nat):Prop:=match dd cs i with
 | none=>zu P o ev w (D i)
 | some dead=>Xd P ops o ev B0 W0 w D dead i
def FE (ops:Array Oper) (i d:Nat):Bool:=(List.range ops.size).all fun j=>match ops[j]? with
 | some o=>o.dst != some d||(j==i)||(xY ops i ops.size).contains j
 | none=>true
theorem Fd {b:Array Oper} {i d:Nat} (h:FE b i d=true) {j:Nat} {o:Oper} (c:b[j]?=some o) (e:o.dst=some d):j=i\/j∈xY b i b.size:=by
 have a:=List.all_eq_true.1 h j (List.mem_range.2 (Array.getElem?_eq_some_iff.1 c).1);rw [c] at a;simp only [e,bne_self_eq_false,Bool.false_or,Bool.or_eq_true,beq_iff_eq] at a;rcases a with a | a
 ·exact Or.inl a
 exact Or.inr (List.contains_iff_mem.1 a)
theorem Ld {a:Array Oper} {d:Nat} (h:yQ a d=true) {i:Nat} {o:Oper} (c:a[i]?=some o) (b:o.dst=some d) {p:Prop}:p:=by
 simp only [yQ,Array.all_eq_true_iff_forall_mem] at h;have:=h o (Array.mem_of_getElem? c);simp [b] at this
def UG (ops:Array Oper):Bool:=ops.all fun o=>match o.op with
 | .defer _=>false
 | _=>true
def WU (ops:Array Oper) (c:Nat):Bool:=decide (ops.size=c+1)&&((List.range c).all fun i=>(List.range (c+1)).any fun j=>decide (i<j)&&match ops[j]? with
 | some o=>yt o i
 | none=>false)
theorem Tg {b:Array Oper} {c:Nat} (h:WU b c=true):b.size=c+1/\∀ i,i<c->∃ j o,i<j/\j<=c/\b[j]?=some o/\yt o i=true:=by
 simp only [WU,Bool.and_eq_true,decide_eq_true_eq,List.all_eq_true,List.mem_range,List.any_eq_true] at h;refine ⟨h.1,fun i e=>?_⟩;obtain ⟨j,g,f,a⟩:=h.2 i e;cases d:b[j]? with
 | none=>rw [d] at a;cases a
 | some o=>rw [d] at a;exact ⟨j,o,f,by omega,d,a⟩
theorem Jv {b:Array Oper} (h:UG b=true) {l i:Nat} {o:Oper} (e:b[i]?=some o) (a:Operand->Value):Oper.semAt (some l) a o=execOp a o:=by
 refine Oper.semAt_some l a o fun c d=>?_;simp only [UG,Array.all_eq_true_iff_forall_mem] at h;have:=h o (Array.mem_of_getElem? e);rw [d] at this;cases this
theorem Xz {l n:Nat} {P:Program} {f:FuncId} {args:Array Value} {w:World} {a:Ending->World->Prop} (h:Calls P f args w a):CallsIn (Fence.wide.inRound l) n P f args w a:=CallsIn.inRound l (callsIn_wide.2 h)
structure RInvI (ops:Array Oper) (c:Nat) (W0:World) (T0:Array Value) (df:List Deferred) (D:Nat->Value->World->Prop) (listed:Array Bool) (a:Act) (w:World):Prop where
 inv:RInv ops W0 T0 df D listed a w
 open_:listed.getD c true=false
 closed:∀ i o,ops[i]?=some o->listed.getD i false=true->∀ j,yt o j=true->listed.getD j false=true
theorem S9 {b:Array Oper} {c:Nat} (l:WU b c=true) {a:Array Bool} (h:∀ i o,b[i]?=some o->a.getD i false=true->∀ j,yt o j=true->a.getD j false=true)
 (g:∀ o,b[c]?=some o->∀ j,yt o j=true->a.getD j false=true):∀ m i,c-i=m->i<c->a.getD i false=true:=by
 intro m
 induction m using Nat.strongRecOn with
 | _ m ih =>
  intro i q k;obtain ⟨j,o,n,p,d,f⟩:=(Tg l).2 i k;by_cases e:j=c
  ·subst e;exact g o d i f
  exact h j o d (ih (c-j) (by omega) j rfl (by omega)) i f
def Ya (ns:List (Nat×Bool)) (o:Oper):Bool:=match o.guard with
 | some g=>ns.contains g
 | none=>false
def Zw (P:Program) (ns:List (Nat×Bool)) (o:Oper) (ev:Operand->Value) (w:World) (D:Value->World->Prop):Prop:=if Ya ns o=true then D undef w else zu P o ev w D
theorem Zw.does {P:Program} {ns:List (Nat×Bool)} {o:Oper} {a:Operand->Value} {w:World} {D:Value->World->Prop} (b:Ya ns o=false) (h:zu P o a w D):Zw P ns o a w D:=by
 unfold Zw;rw [if_neg (by rw [b];decide)];exact h
theorem Zw.skip {P:Program} {ns:List (Nat×Bool)} {o:Oper} {a:Operand->Value} {w:World} {D:Value->World->Prop} (b:Ya ns o=true) (h:D undef w):Zw P ns o a w D:=by
 unfold Zw;rw [if_pos b];exact h
def XK (ops:Array Oper) (op:Nat->(Act->World->Prop)->Act->World->Prop) (Q:Exit->Act->World->Prop):Nat->Array Bool->Act->World->Prop
 | 0,l,a,w=>Region.ready .any ops l=[]/\Q .normal a w
 | f+1,l,a,w=>(Region.ready .any ops l=[]->Q .normal a w)/\∀ i∈Region.ready .any ops l,op i (XK ops op Q f (l.setIfInBounds i true)) a w
theorem Tw {P:Program} {c:Array Oper} {b:Exit->Act->World->Prop}:XK c (wpOp P c b) b=wpAny P .any c b:=by
 funext f
 induction f with
 | zero=>rfl
 | succ f ih=>funext l a w;simp only [XK,wpAny,ih]
theorem N6 {F:Fence} {n:Nat} {P:Program} {c:Array Oper} {b:Exit->Act->World->Prop}:XK c (wpOpIn F n P c b) b=wpAnyIn F n P .any c b:=by
 funext f
 induction f with
 | zero=>rfl
 | succ f ih=>funext l a w;simp only [XK,wpAnyIn,ih]
def FB (P:Program) (o:Oper) (a:Act) (w:World) (K:Act->World->Prop):Prop :=
 (∃ v w',(execOp a.eval o).run P w=.ok (.value v) w'/\K (a.put o.dst v) w')\/(∃ w',(execOp a.eval o).run P w=.ok .skip w'/\K (a.put o.dst undef) w') \/
 ∃ f args,(execOp a.eval o).run P w=.ok (.enter f args) w/\Calls P f args w fun e w'=>∃ v,e=.returned v/\K (a.put o.dst v) w'
def G4 (P:Program) (ops:Array Oper) (op:Nat->(Act->World->Prop)->Act->World->Prop):Prop :=
 ∀ i o,ops[i]?=some o->∀ K a w,(if Region.wanted o (yielded ops a.tmps)=true then FB P o a w K else K (a.put o.dst undef) w)->op i K a w
theorem Ov {P:Program} {d:Array Oper} {g:Exit->Act->World->Prop}:G4 P d (wpOp P d g):=by
 intro i o k l a w h;unfold wpOp;simp only [k]
 split at h
 ·rename_i hw;rw [if_pos hw];refine Or.inl ?_;unfold Oper.wp;rcases h with ⟨v,w',c,b⟩ | ⟨w',c,b⟩ | ⟨f,args,c,j⟩
  ·rw [c];exact b
  ·rw [c];exact b
  rw [c];refine Calls.mono j ?_;rintro e w' ⟨v,rfl,b⟩;exact b
 rename_i hw;rw [if_neg hw];exact h
theorem Hl {l n:Nat} {P:Program} {d:Array Oper} {j:Exit->Act->World->Prop} (m:UG d=true):G4 P d (wpOpIn (Fence.wide.inRound l) n P d j):=by
 intro i o g p a w h;unfold wpOpIn;simp only [g]
 split at h
 ·rename_i hw;rw [if_pos hw];unfold Oper.wpIn;refine ⟨fun f _=>trivial,?_⟩;rw [Fence.inRound_round,Jv m g];rcases h with ⟨v,w',c,b⟩ | ⟨w',c,b⟩ | ⟨f,args,c,k⟩
  ·rw [c];exact b
  ·rw [c];exact b
  rw [c];refine ⟨fun h=>by simp [Fence.inRound,Fence.wide] at h,(Xz k).mono ?_⟩;rintro e w' ⟨v,rfl,b⟩;exact b
 rename_i hw;rw [if_neg hw];exact ⟨fun f _=>trivial,h⟩
structure RInvE (ops:Array Oper) (cs:List (Nat×List Nat)) (B0:Nat) (W0:World) (T0:Array Value) (df:List Deferred) (D:Nat->Value->World->Prop) (listed:Array Bool) (a:Act) (w:World):Prop where
 size:listed.size=ops.size
 below:Below B0 W0 w
 belowS:(∀ c dead,dd cs c=some dead->listed.getD c false=false)->Below W0.heap.size W0 w
 df:a.defers=df
 tsize:a.tmps.size=T0.size
 old:∀ d,(∀ i o,ops[i]?=some o->o.dst=some d->listed.getD i false=false)->a.tmps.getD d undef=T0.getD d undef
 got:∀ i o,ops[i]?=some o->(o.dst≠none\/dd cs i≠none)->listed.getD i false=true->¬I6 cs listed i->D i (Vm o a.tmps) w
 closed:∀ i o,ops[i]?=some o->listed.getD i false=true->∀ j,yt o j=true->listed.getD j false=true
theorem Hk {op:Nat->(Act->World->Prop)->Act->World->Prop} {P:Program} {p:Array Oper} {ad:Exit->Act->World->Prop} {W0:World} {W:Array Value} {df:List Deferred} {D:Nat->Value->World->Prop} {gs ns:List (Nat×Bool)} {cs:List (Nat×List Nat)} {B0:Nat} (aF:B0<=W0.heap.size) (aS:G4 P p op)
 (ag:Yf p (gs++ns) W.size=true) (hg:∀ g∈gs,∃ o d,p[g.1]?=some o/\o.dst=some d/\∀ v w,D g.1 v w->v=.bool g.2) (hn:∀ g∈ns,∃ o d,p[g.1]?=some o/\o.dst=some d/\∀ v w,D g.1 v w->v≠.bool g.2) (aA:∀ g∈gs++ns,∀ i,UE p cs i g.1=true)
 (aG:∀ i v w w',D i v w->Below w.heap.size w w'->D i v w')
 (hstep:∀ i o,p[i]?=some o->∀ (T:Array Value) (w:World),(FH p cs i=true->Below W0.heap.size W0 w)->Below B0 W0 w->(∀ d,FE p i d=true->T.getD d undef=W.getD d undef) ->
  (∀ j r d,p[j]?=some r->r.dst=some d->yt o j=true->UE p cs i j=true->D j (T.getD d undef) w)->if Ya ns o=true then D i undef w else QM P p o (Act.eval ⟨T,df⟩) B0 W0 w D cs i)
 (hfin:∀ (T:Array Value) (w:World),Below B0 W0 w->T.size=W.size->(∀ d,yQ p d=true->T.getD d undef=W.getD d undef)->(∀ i o,p[i]?=some o->(o.dst≠none\/dd cs i≠none)->Zo cs i=false->D i (Vm o T) w)->ad .normal ⟨T,df⟩ w) :
 ∀ (S:Nat) (q:Array Bool) (a:Act) (w:World),Xv q<=S->RInvE p cs B0 W0 W df D q a w->XK p op ad S q a w:=by
 have ar:∀ (q:Array Bool) (a:Act) (w:World),RInvE p cs B0 W0 W df D q a w->Region.ready .any p q=[]->ad .normal a w:=by
  rintro q ⟨T,X⟩ w n ab;obtain rfl:X=df:=n.df;refine hfin T w n.below n.tsize (fun d aa=>n.old d fun i o A z=>Ld aa A z) fun i o A z F=>n.got i o A z (SY ag n.size ab i (Array.getElem?_eq_some_iff.1 A).1) ?_;rintro ⟨c,t,I,_,aT⟩;have:Zo cs i=true:=List.any_eq_true.2 ⟨(c,t),MP I,aT⟩;rw [F] at this;cases this
 intro S
 induction S with
 | zero =>
  intro q a w aM n;have ab:Region.ready .any p q=[]:=by
   cases ab:Region.ready .any p q with
   | nil=>rfl
   | cons i l =>
    have:i∈Region.ready .any p q:=(by rw [ab];simp);have:=Y2 (mem_ready.1 this).1;omega
  exact ⟨ab,ar q a w n ab⟩
 | succ S ih =>
  intro q a w aM n;refine ⟨ar q a w n,fun i aO=>?_⟩;obtain ⟨av,o,A,aH⟩:=mem_ready.1 aO;have ae:i<q.size:=by have:=(Array.getElem?_eq_some_iff.1 A).1;have:=n.size;omega
  have x:q.getD i false=false:=by simpa [ae] using av
  have aU:=Y2 av;obtain ⟨T,X⟩:=a;obtain rfl:X=df:=n.df;have ai:=Xq ag A;have aD:∀ j,yt o j=true->q.getD j false=true:=by
   intro j Q;simp only [yt,List.any_eq_true,Bool.and_eq_true,beq_iff_eq] at Q;obtain ⟨e,ak,y,rfl⟩:=Q;exact aH e (by simpa using ak) y
  have aj:∀ j r d,p[j]?=some r->r.dst=some d->yt o j=true->UE p cs i j=true->D j (T.getD d undef) w:=by
   intro j r d s z Q O;have aN:Vm r T=T.getD d undef:=(by unfold Vm;rw [z]);rw [<-aN];refine n.got _ r s (Or.inl (by rw [z];simp)) (aD j Q) ?_;rintro ⟨c,t,I,J,F⟩;rcases IJ O I F with e | e
   ·subst e;rw [J] at x;cases x
   rw [wg n.closed e J] at x;cases x
  have aJ:FH p cs i=true->zL W0 w:=fun O=>n.belowS fun c t I=>by
   have M:=List.all_eq_true.1 O (c,t) (MP I);simp only [Bool.or_eq_true,beq_iff_eq] at M;cases J:q.getD c false with
   | false=>rfl
   | true =>
    rcases M with e | e
    ·subst e;rw [J] at x;cases x
    rw [wg n.closed (List.contains_iff_mem.1 e) J] at x;cases x
  have an:∀ m,q.getD m false=true->(q.setIfInBounds i true).getD m false=true:=fun m aR=>by
   by_cases e:i=m
   ·subst e;simp [ae]
   rw [getD_set_ne false e];exact aR
  have az:∀ j r,p[j]?=some r->(q.setIfInBounds i true).getD j false=true->∀ k,yt r k=true->(q.setIfInBounds i true).getD k false=true:=by
   intro j r s C k O;by_cases e:i=j
   ·subst e;rw [A] at s;cases s
    exact an k (aD k O)
   rw [getD_set_ne false e] at C;exact an k (n.closed j r s C k O)
  have next:∀ (v:Value) (w':World),D i v w'->(o.dst=none->dd cs i≠none->v=undef)->Below B0 W0 w'->((∀ c t,dd cs c=some t->(q.setIfInBounds i true).getD c false=false)->zL W0 w')->(∀ j,j≠i->(∀ t,dd cs i=some t->t.contains j=false)->q.getD j false=true->∀ u,D j u w->D j u w')->XK p op ad S (q.setIfInBounds i true) (Act.put ⟨T,X⟩ o.dst v) w':=by
   intro v w' B ap y ay aP;refine ih _ _ _ (by omega) ?_;have au:∀ j r,p[j]?=some r->(r.dst≠none\/dd cs j≠none)->i≠j->(q.setIfInBounds i true).getD j false=true->¬I6 cs (q.setIfInBounds i true) j->D j (Vm r T) w':=by
    intro j r s G e C F;rw [getD_set_ne false e] at C;refine aP j (Ne.symm e) (fun t I=>?_) C _ (n.got j r s G C ?_)
    ·cases J:t.contains j with
     | false=>rfl
     | true=>exact absurd ⟨i,t,I,by simp [ae],J⟩ F
    rintro ⟨c,t,I,M,H⟩;exact F ⟨c,t,I,an _ M,H⟩
   cases z:o.dst with
   | none =>
    refine ⟨by simpa using n.size,y,ay,rfl,n.tsize,fun d aa=>n.old d (fun j r s G=>by
     have:=aa j r s G;by_cases e:i=j
     ·subst e;exact x
     rwa [getD_set_ne false e] at this),fun j r s G C F=>?_,az⟩
    by_cases e:i=j
    ·subst e;rw [A] at s;cases s
     have aL:dd cs i≠none:=G.resolve_left (fun h=>h z);have:Vm o (Act.put ⟨T,X⟩ none v).tmps=undef:=(by unfold Vm;rw [z]);rw [this,<-ap z aL];exact B
    exact au j r s G e C F
   | some d0 =>
    have aK:d0<T.size:=Nat.lt_of_lt_of_eq (ai.2.1 d0 z) n.tsize.symm;refine ⟨by simpa using n.size,y,ay,rfl,by simpa [Act.put] using n.tsize,fun d aa=>?_,fun j r s G C F=>?_,az⟩
    ·have am:d0≠d:=by
      rintro rfl;have:=aa i o A z;simp [ae] at this
     have:=n.old d (fun j r s G=>by
      have:=aa j r s G;by_cases e:i=j
      ·subst e;exact x
      rwa [getD_set_ne false e] at this)
     simp only [Act.put] at this ⊢;rw [<-this];simp [Array.getElem?_setIfInBounds_ne am]
    by_cases e:i=j
    ·subst e;rw [A] at s;cases s
     unfold Vm;rw [z];simpa [Act.put,aK] using B
    have:=au j r s G e C F;unfold Vm at this ⊢;cases al:r.dst with
    | none=>rw [al] at this;exact this
    | some d =>
     have am:d0≠d:=by
      rintro rfl;exact e (Pu ag A s z al)
     rw [al] at this;simp only [Act.put] at this ⊢;simpa [Array.getElem?_setIfInBounds_ne am] using this
  have N:=hstep i o A T w aJ n.below (fun d z=>n.old d fun j r s G=>by
   cases C:q.getD j false with
   | false=>rfl
   | true =>
    rcases Fd z s G with e | e
    ·subst e;rw [C] at x;cases x
    rw [wg n.closed e C] at x;cases x) aj
  have ax:dd cs i=none\/Ya ns o=true->(∀ c t,dd cs c=some t->(q.setIfInBounds i true).getD c false=false)->zL W0 w:=fun _ af=>n.belowS fun c t I=>by
   have M:=af c t I;by_cases e:i=c
   ·subst e;exact x
   rwa [getD_set_ne false e] at M
  refine aS i o A _ _ _ ?_;cases E:Ya ns o with
  | true =>
   rw [if_pos E] at N;have Q:Region.wanted o (yielded p T)=false:=by
    unfold Ya at E;unfold Region.wanted;cases Y:o.guard with
    | none=>rw [Y] at E;cases E
    | some g =>
     rw [Y] at E;have aB:g∈ns:=(by simpa using E);obtain ⟨aq,d,V,U,B⟩:=hn g aB;have:=B _ _ (aj g.1 aq d V U (ai.2.2 g Y).1 (aA g (by simp [aB]) i));have ah:d<T.size:=Nat.lt_of_lt_of_eq ((Xq ag V).2.1 d U) n.tsize.symm;show (yielded p T g.1==some g.2)=false;rw [beq_eq_false_iff_ne];intro R;apply this;unfold yielded at R;rw [V] at R;simp only [Option.bind_some,U,Array.getElem?_eq_getElem ah] at R;have H:T.getD d undef=T[d]:=(by simp [ah]);rw [H];cases y:T[d] with
     | bool b=>rw [y] at R;simp only [Option.some.injEq] at R;rw [R]
     | _=>rw [y] at R;cases R
   rw [if_neg (by rw [Q];decide)];exact next undef w N (fun _ _=>rfl) n.below (ax (Or.inr E)) (fun _ _ _ _ _ h=>h)
  | false =>
  rw [if_neg (by rw [E];decide)] at N;have Q:Region.wanted o (yielded p T)=true:=by
   unfold Region.wanted;cases Y:o.guard with
   | none=>rfl
   | some g =>
    obtain ⟨M,H⟩:=ai.2.2 g Y;have aE:g∈gs:=by
     unfold Ya at E;rw [Y] at E;rw [List.mem_append] at H;rcases H with H | H
     ·exact H
     have:ns.contains g=true:=(by simpa using H);simp only at E;rw [this] at E;cases E
    obtain ⟨aq,d,V,U,B⟩:=hg g aE;have:=B _ _ (aj g.1 aq d V U M (aA g H i));have ah:d<T.size:=Nat.lt_of_lt_of_eq ((Xq ag V).2.1 d U) n.tsize.symm;simp [Qg V U ah this]
  rw [if_pos Q];unfold QM at N;cases Z:dd cs i with
  | some t =>
   rw [Z] at N;obtain ⟨v,w',L,ap,B,y,O⟩:=N;have hn:=next v w' B (fun h _=>ap h) y (fun af=>by have:=af i t Z;simp [ae] at this) (fun j s F aQ u ao=>O j s (F t Z) (by
    cases aI:(xY p i p.size).contains j with
    | false=>rfl
    | true =>
     have:=wg n.closed (List.contains_iff_mem.1 aI) aQ;rw [this] at x;cases x) u ao)
   rcases L with L | ⟨L,rfl⟩
   ·exact Or.inl ⟨v,w',L,hn⟩
   exact Or.inr (Or.inl ⟨w',L,hn⟩)
  | none =>
   rw [Z] at N;have aC:∀ v w',D i v w'->zL w w'->XK p op ad S (q.setIfInBounds i true) (Act.put ⟨T,X⟩ o.dst v) w':=fun v w' B y =>
    next v w' B (fun _ h=>absurd Z h) (n.below.trans (y.mono (Nat.le_trans aF n.below.size))) (fun af=>by
     have aw:=ax (Or.inl Z) af;exact aw.trans (y.mono aw.size)) (fun j _ _ _ u ao=>aG j u w w' ao y)
   rcases N with ⟨v,w',L,B,y⟩ | ⟨f,args,L,J⟩
   ·exact Or.inl ⟨v,w',L,aC v w' B y⟩
   exact Or.inr (Or.inr ⟨f,args,L,Calls.mono J fun e w' h=>by
    obtain ⟨v,ak,B,y⟩:=h;exact ⟨v,ak,aC v w' B y⟩⟩)
theorem RZ {op:Nat->(Act->World->Prop)->Act->World->Prop} {P:Program} {F:Exit->Act->World->Prop} {p:Array Value} {df:List Deferred} {w:World} {a:Array Oper} (V:G4 P a op) (e:List Ka) (gs ns:List (Nat×Bool)) (cs:List (Nat×List Nat)) (B0:Nat) (M:B0<=w.heap.size)
 (U:Yf a (gs++ns) p.size=true) (S:M0 a (gs++ns)=true) (R:((gs++ns).all fun g=>!Zo cs g.1)=true) (hg:∀ g∈gs,∀ v w,yn e g.1 v w->v=.bool g.2) (hn:∀ g∈ns,∀ v w,yn e g.1 v w->v≠.bool g.2)
 (hstep:zc (fun i o=>∀ (T:Array Value) (w':World),(FH a cs i=true->Below w.heap.size w w')->Below B0 w w'->(∀ d,FE a i d=true->T.getD d undef=p.getD d undef) ->
  (∀ j d,(Nb a i j d&&UE a cs i j)=true->yn e j (T.getD d undef) w')->if Ya ns o=true then yn e i undef w' else QM P a o (Act.eval ⟨T,df⟩) B0 w w' (yn e) cs i) a.toList 0)
 (hfin:∀ (T:Array Value) (w':World),Below B0 w w'->T.size=p.size->(∀ d,yQ a d=true->T.getD d undef=p.getD d undef)->(∀ i d,Zo cs i=false->XA a i d=true->yn e i (T.getD d undef) w')->(∀ c,LV a c=true->(dd cs c).isSome=true->Zo cs c=false->yn e c undef w')->F .normal ⟨T,df⟩ w') :
 XK a op F a.size (Array.replicate a.size false) ⟨p,df⟩ (w.drewN 1):=by
 have Q:∀ (T:Array Value) (w':World) (i:Nat) (o:Oper),a[i]?=some o->(∀ j y d,a[j]?=some y->y.dst=some d->yt o j=true->UE a cs i j=true->yn e j (T.getD d undef) w')->∀ j d,(Nb a i j d&&UE a cs i j)=true->yn e j (T.getD d undef) w':=by
  intro T w' i o b m j d I;rw [Bool.and_eq_true] at I;obtain ⟨n,A⟩:=I;unfold Nb at n;rw [b] at n;cases C:a[j]? with
  | none=>rw [C] at n;cases n
  | some y =>
   rw [C] at n;simp only [Bool.and_eq_true,beq_iff_eq] at n;exact m j y d C n.2 n.1 A
 have G:∀ g∈gs++ns,∃ o d,a[g.1]?=some o/\o.dst=some d:=fun g f=>by
  have:=List.all_eq_true.1 S g f;cases b:a[g.1]? with
  | none=>rw [b] at this;cases this
  | some o =>
   rw [b] at this;obtain ⟨d,m⟩:=Option.isSome_iff_exists.1 this;exact ⟨o,d,rfl,m⟩
 refine (Hk (W0:=w.drewN 1) (df:=df) (D:=yn e) (gs:=gs) (ns:=ns) (cs:=cs) (B0:=B0) M V U (fun g f=>?_) (fun g f=>?_) (fun g f i=>?_) (fun i v w w' h s=>(e.getD i (zl undef)).2 v w w' h s) (fun i o b T w' N s E m=>?_) (fun T w' s u E m=>?_) _ _ _ _ ?_ ?_)
 ·obtain ⟨o,d,l,q⟩:=G g (by simp [f]);exact ⟨o,d,l,q,hg g f⟩
 ·obtain ⟨o,d,l,q⟩:=G g (by simp [f]);exact ⟨o,d,l,q,hn g f⟩
 ·have l:=List.all_eq_true.1 R g f;refine List.all_eq_true.2 fun x W=>?_;cases O:x.2.contains g.1 with
  | false=>rfl
  | true =>
   have:Zo cs g.1=true:=List.any_eq_true.2 ⟨x,W,O⟩;rw [this] at l;cases l
 ·have:=hstep.at i o (by simpa using b);rw [Nat.zero_add] at this;have h:=this T w' (fun A=>(_root_.Go.below_drewN (Below.refl _ _) 1).trans (N A)) ((_root_.Go.below_drewN (Below.refl _ _) 1).trans s) E (Q T w' i o b m)
  split at h
  ·rename_i hsk;rw [if_pos hsk];exact h
  rename_i hsk;rw [if_neg hsk];unfold QM at h ⊢;cases H:dd cs i with
  | none=>rw [H] at h;exact h
  | some dead =>
   rw [H] at h;obtain ⟨v,X,l,J,q,r,L⟩:=h;exact ⟨v,X,l,J,q,⟨r.os,r.tape,r.output,r.size,r.block⟩,L⟩
 ·refine hfin T w' ((_root_.Go.below_drewN (Below.refl _ _) 1).trans s) u E (fun i d z k=>?_) (fun c hn u z=>?_)
  ·unfold XA at k;cases b:a[i]? with
   | none=>rw [b] at k;cases k
   | some o =>
    rw [b] at k;have t:o.dst=some d:=(by simpa using k);have:=m i o b (Or.inl (by rw [t];simp)) z;unfold Vm at this;rw [t] at this;exact this
  unfold LV at hn;cases b:a[c]? with
  | none=>rw [b] at hn;cases hn
  | some o =>
   rw [b] at hn;have t:o.dst=none:=(by simpa using hn);have:=m c o b (Or.inr (by intro h;rw [h] at u;cases u)) z;unfold Vm at this;rw [t] at this;exact this
 ·simp [Xv]
 ·exact ⟨by simp,Below.refl _ _,fun _=>Below.refl _ _,rfl,rfl,fun _ _=>rfl,fun i o b _ B=>by
   have k:i<a.size:=(Array.getElem?_eq_some_iff.1 b).1;simp [k] at B,fun i o b B=>by
   have k:i<a.size:=(Array.getElem?_eq_some_iff.1 b).1;simp [k] at B⟩
theorem zc.imp {F a:Nat->Oper->Prop} (h:∀ i o,F i o->a i o):∀ {l:List Oper} {k:Nat},zc F l k->zc a l k
 | [],_,_=>trivial
 | _::_,_,⟨h1,h2⟩=>⟨h _ _ h1,zc.imp h h2⟩
theorem Ig {a:Array Oper} {i d:Nat} (h:yQ a d=true):FE a i d=true:=by
 refine List.all_eq_true.2 fun j _=>?_;cases b:a[j]? with
 | none=>rfl
 | some o =>
  have:=Array.all_eq_true_iff_forall_mem.1 h o (Array.mem_of_getElem? b);simp only [this,Bool.true_or]
theorem Vl (o:Oper):¬Ya [] o=true:=by
 unfold Ya;cases o.guard <;> simp
theorem Vr {P:Program} {n:Exit->Act->World->Prop} {u:Nat} {k:Array Value} {df:List Deferred} {w:World} {m:Array Oper} (e:Array Oper) (l:m=e) (f:List Ka) (gs:List (Nat×Bool)) (cs:List (Nat×List Nat)) (B0:Nat) (p:B0<=w.heap.size) (s:P.follows .mixedOrders=true)
 (t:Yf e gs k.size=true) (r:M0 e gs=true) (q:(gs.all fun g=>!Zo cs g.1)=true) (hg:∀ g∈gs,∀ v w,yn f g.1 v w->v=.bool g.2)
 (hstep:zc (fun i o=>∀ (T:Array Value) (w':World),(FH e cs i=true->Below w.heap.size w w')->Below B0 w w'->(∀ d,(_:FE e i d=true:=by kernel_rfl)->T.getD d undef=k.getD d undef) ->
  (∀ j d,(_:(Nb e i j d&&UE e cs i j)=true:=by kernel_rfl)->yn f j (T.getD d undef) w')->QM P e o (Act.eval ⟨T,df⟩) B0 w w' (yn f) cs i) m.toList 0)
 (hfin:∀ (T:Array Value) (w':World),Below B0 w w'->T.size=k.size->(∀ d,(_:yQ e d=true:=by kernel_rfl)->T.getD d undef=k.getD d undef)->(∀ i d,(_:Zo cs i=false:=by kernel_rfl)->(_:XA e i d=true:=by kernel_rfl)->yn f i (T.getD d undef) w')->(∀ c,(_:LV e c=true:=by kernel_rfl)->(_:(dd cs c).isSome=true:=by kernel_rfl)->(_:Zo cs c=false:=by kernel_rfl)->yn f c undef w')->n .normal ⟨T,df⟩ w') :
 (Code.region u m true).wp P n ⟨k,df⟩ w:=by
 have l:=l.symm;subst l;refine wp_region_any s ?_;rw [<-Tw];exact RZ Ov f gs [] cs B0 p (by rw [List.append_nil];exact t) (by rw [List.append_nil];exact r) (by rw [List.append_nil];exact q) hg (fun g h=>by cases h) (hstep.imp fun i o h T w' a b c d=>by rw [if_neg (Vl o)];exact h T w' a b c d) hfin
theorem Zl {P:Program} {m:Exit->Act->World->Prop} {y:Nat} {k:Array Value} {df:List Deferred} {w:World} {l:Array Oper} (e:Array Oper) (p:l=e) (f:List Ka) (gs:List (Nat×Bool)) (cs:List (Nat×List Nat)) (B0:Nat) (n:B0<=w.heap.size) (s:P.follows .mixedOrders=true)
 (t:Yf e gs k.size=true) (r:M0 e gs=true) (q:(gs.all fun g=>!Zo cs g.1)=true) (hg:∀ g∈gs,∀ v w,yn f g.1 v w->v=.bool g.2)
 (hstep:zc (fun i o=>∀ (T:Array Value) (w':World),(FH e cs i=true->Below w.heap.size w w')->Below B0 w w'->(∀ d,(_:yQ e d=true:=by kernel_rfl)->T.getD d undef=k.getD d undef) ->
  (∀ j d,(_:(Nb e i j d&&UE e cs i j)=true:=by kernel_rfl)->yn f j (T.getD d undef) w')->QM P e o (Act.eval ⟨T,df⟩) B0 w w' (yn f) cs i) l.toList 0)
 (hfin:∀ (T:Array Value) (w':World),Below B0 w w'->T.size=k.size->(∀ d,(_:yQ e d=true:=by kernel_rfl)->T.getD d undef=k.getD d undef)->(∀ i d,(_:Zo cs i=false:=by kernel_rfl)->(_:XA e i d=true:=by kernel_rfl)->yn f i (T.getD d undef) w')->(∀ c,(_:LV e c=true:=by kernel_rfl)->(_:(dd cs c).isSome=true:=by kernel_rfl)->(_:Zo cs c=false:=by kernel_rfl)->yn f c undef w')->m .normal ⟨T,df⟩ w') :
 (Code.region y l true).wp P m ⟨k,df⟩ w :=
 Vr e p f gs cs B0 n s t r q hg (hstep.imp fun _ _ h T w' a b c d=>h T w' a b (fun x u=>c x (Ig u)) d) hfin
theorem T3 {op:Nat->(Act->World->Prop)->Act->World->Prop} {P:Program} {m:Exit->Act->World->Prop} {k:Array Value} {df:List Deferred} {w:World} {e:Array Oper} (z:G4 P e op) (f:List Ka) (gs ns:List (Nat×Bool))
 (u:Yf e (gs++ns) k.size=true) (r:M0 e (gs++ns)=true) (hg:∀ g∈gs,∀ v w,yn f g.1 v w->v=.bool g.2) (hn:∀ g∈ns,∀ v w,yn f g.1 v w->v≠.bool g.2)
 (hstep:zc (fun i o=>∀ (T:Array Value) (w':World),Below w.heap.size w w'->(∀ d,yQ e d=true->T.getD d undef=k.getD d undef) ->
  (∀ j d,Nb e i j d=true->yn f j (T.getD d undef) w')->Zw P ns o (Act.eval ⟨T,df⟩) w' (yn f i)) e.toList 0)
 (hfin:∀ (T:Array Value) (w':World),Below w.heap.size w w'->T.size=k.size->(∀ d,yQ e d=true->T.getD d undef=k.getD d undef)->(∀ i d,XA e i d=true->yn f i (T.getD d undef) w')->m .normal ⟨T,df⟩ w') :
 XK e op m e.size (Array.replicate e.size false) ⟨k,df⟩ (w.drewN 1):=by
 have y:∀ i,Zo [] i=false:=fun _=>rfl;refine RZ z f gs ns [] w.heap.size (Nat.le_refl _) u r (by simp [y]) hg hn (hstep.imp fun i o h T w' a b c d=>?_) (fun T w' p l t q _=>hfin T w' p l t fun i d h=>q i d rfl h);have h:=h T w' (a rfl) (fun x A=>c x (Ig A)) (fun j n s=>d j n (by rw [s];rfl));unfold Zw at h
 split at h
 ·rename_i l;rw [if_pos l];exact h
 ·rename_i l;rw [if_neg l];exact h
theorem Vs {P:Program} {h:Exit->Act->World->Prop} {n:Nat} {c:Array Value} {df:List Deferred} {w:World} {f:Array Oper} (a:Array Oper) (e:f=a) (b:List Ka) (gs ns:List (Nat×Bool)) (l:P.follows .mixedOrders=true)
 (m:Yf a (gs++ns) c.size=true) (k:M0 a (gs++ns)=true) (hg:∀ g∈gs,∀ v w,yn b g.1 v w->v=.bool g.2) (hn:∀ g∈ns,∀ v w,yn b g.1 v w->v≠.bool g.2)
 (hstep:zc (fun i o=>∀ (T:Array Value) (w':World),Below w.heap.size w w'->(∀ d,(_:yQ a d=true:=by kernel_rfl)->T.getD d undef=c.getD d undef) ->
  (∀ j d,(_:Nb a i j d=true:=by kernel_rfl)->yn b j (T.getD d undef) w')->Zw P ns o (Act.eval ⟨T,df⟩) w' (yn b i)) f.toList 0)
 (hfin:∀ (T:Array Value) (w':World),Below w.heap.size w w'->T.size=c.size->(∀ d,(_:yQ a d=true:=by kernel_rfl)->T.getD d undef=c.getD d undef)->(∀ i d,(_:XA a i d=true:=by kernel_rfl)->yn b i (T.getD d undef) w')->h .normal ⟨T,df⟩ w') :
 (Code.region n f true).wp P h ⟨c,df⟩ w:=by
 have e:=e.symm;subst e;refine wp_region_any l ?_;rw [<-Tw];exact T3 Ov b gs ns m k hg hn hstep hfin
theorem zV {P:Program} {m:Exit->Act->World->Prop} {s:Nat} {k:Array Value} {df:List Deferred} {w:World} {l:Array Oper} (e:Array Oper) (n:l=e) (f:List Ka) (gs:List (Nat×Bool)) (q:P.follows .mixedOrders=true)
 (r:Yf e gs k.size=true) (p:M0 e gs=true) (hg:∀ g∈gs,∀ v w,yn f g.1 v w->v=.bool g.2)
 (hstep:zc (fun i o=>∀ (T:Array Value) (w':World),Below w.heap.size w w'->(∀ d,(_:yQ e d=true:=by kernel_rfl)->T.getD d undef=k.getD d undef) ->
  (∀ j d,(_:Nb e i j d=true:=by kernel_rfl)->yn f j (T.getD d undef) w')->zu P o (Act.eval ⟨T,df⟩) w' (yn f i)) l.toList 0)
 (hfin:∀ (T:Array Value) (w':World),Below w.heap.size w w'->T.size=k.size->(∀ d,(_:yQ e d=true:=by kernel_rfl)->T.getD d undef=k.getD d undef)->(∀ i d,(_:XA e i d=true:=by kernel_rfl)->yn f i (T.getD d undef) w')->m .normal ⟨T,df⟩ w') :
 (Code.region s l true).wp P m ⟨k,df⟩ w :=
 Vs e n f gs [] q (by rw [List.append_nil];exact r) (by rw [List.append_nil];exact p) hg (fun g h=>by cases h) (hstep.imp fun i o h T w' a b c=>by unfold Zw;rw [if_neg (Vl o)];exact h T w' a (fun d h=>b d h) fun j d h=>c j d h) hfin
theorem Sm {l n:Nat} {P:Program} {q:Exit->Act->World->Prop} {x:Nat} {k:Array Value} {df:List Deferred} {w:World} {p:Array Oper} (e:Array Oper) (m:p=e) (f:List Ka) (gs:List (Nat×Bool)) (s:P.follows .mixedOrders=true)
 (t:UG e=true) (u:Yf e gs k.size=true) (r:M0 e gs=true) (hg:∀ g∈gs,∀ v w,yn f g.1 v w->v=.bool g.2)
 (hstep:zc (fun i o=>∀ (T:Array Value) (w':World),Below w.heap.size w w'->(∀ d,(_:yQ e d=true:=by kernel_rfl)->T.getD d undef=k.getD d undef) ->
  (∀ j d,(_:Nb e i j d=true:=by kernel_rfl)->yn f j (T.getD d undef) w')->zu P o (Act.eval ⟨T,df⟩) w' (yn f i)) p.toList 0)
 (hfin:∀ (T:Array Value) (w':World),Below w.heap.size w w'->T.size=k.size->(∀ d,(_:yQ e d=true:=by kernel_rfl)->T.getD d undef=k.getD d undef)->(∀ i d,(_:XA e i d=true:=by kernel_rfl)->yn f i (T.getD d undef) w')->q .normal ⟨T,df⟩ w') :
 (Code.region x p true).wpIn (Fence.wide.inRound l) n P q ⟨k,df⟩ w:=by
 have m:=m.symm;subst m;refine wpIn_region_any s ?_;rw [<-N6];exact T3 (Hl t) f gs [] (by rw [List.append_nil];exact u) (by rw [List.append_nil];exact r) hg (fun g h=>by cases h) (hstep.imp fun i o h T w' a b c=>by unfold Zw;rw [if_neg (Vl o)];exact h T w' a b c) hfin
theorem Lz {g:Array Oper} {op:Nat->(Act->World->Prop)->Act->World->Prop} {b:Exit->Act->World->Prop} {l:Array Bool} {a:Act} {w:World} (e:Region.ready .any g l=[]) (d:b .normal a w):∀ f,XK g op b f l a w
 | 0=>⟨e,d⟩
 | _+1=>⟨fun _=>d,fun i c=>by rw [e] at c;cases c⟩
theorem JL {op:Nat->(Act->World->Prop)->Act->World->Prop} {P:Program} {n:Array Oper} {M:Exit->Act->World->Prop} {W0:World} {C:Array Value} {df:List Deferred} {D:Nat->Value->World->Prop} {gs:List (Nat×Bool)} {c:Nat}
 (ar:G4 P n op) (R:WU n c=true)
 (J:Yf n gs C.size=true) (hg:∀ g∈gs,∃ o d,n[g.1]?=some o/\o.dst=some d/\∀ v w,D g.1 v w->v=.bool g.2)
 (X:∀ i v w w',D i v w->Below w.heap.size w w'->D i v w')
 (hstep:∀ i o,n[i]?=some o->i≠c->∀ (T:Array Value) (w:World),Below W0.heap.size W0 w->(∀ d,yQ n d=true->T.getD d undef=C.getD d undef) ->
  (∀ j p d,n[j]?=some p->p.dst=some d->yt o j=true->D j (T.getD d undef) w)->zu P o (Act.eval ⟨T,df⟩) w (D i))
 (hlast:∀ o,n[c]?=some o->∀ (T:Array Value) (w:World),Below W0.heap.size W0 w->T.size=C.size->(∀ d,yQ n d=true->T.getD d undef=C.getD d undef)->(∀ i af d,n[i]?=some af->i≠c->af.dst=some d->D i (T.getD d undef) w) ->
  ∃ w',(execOp (Act.eval ⟨T,df⟩) o).run P w=.ok .skip w'/\M .normal (Act.put ⟨T,df⟩ o.dst undef) w') :
 ∀ (y:Nat) (q:Array Bool) (a:Act) (w:World),Xv q<=y->RInvI n c W0 C df D q a w->XK n op M y q a w:=by
 have ax:=(Tg R).1;intro y
 induction y with
 | zero =>
  intro q a w am b;have:=Y2 b.open_;omega
 | succ y ih =>
  intro q a w am b;refine ⟨fun V=>?_,fun i ao=>?_⟩
  ·have z:=SY J b.inv.size V c (by omega);have F:=b.open_;have:c<q.size:=(by have:=b.inv.size;omega);simp only [Array.getD,this,dite_true] at z F;rw [z] at F;cases F
  obtain ⟨ag,o,r,ah⟩:=mem_ready.1 ao;have aw:=Y2 ag;obtain ⟨T,W⟩:=a;obtain rfl:W=df:=b.inv.df;have Y:=Xq J r;have L:∀ j,yt o j=true->q.getD j false=true:=by
   intro j B;simp only [yt,List.any_eq_true,Bool.and_eq_true,beq_iff_eq] at B;obtain ⟨e,O,s,rfl⟩:=B;exact ah e (by simpa using O) s
  have Z:∀ j p d,n[j]?=some p->p.dst=some d->yt o j=true->D j (T.getD d undef) w:=fun j p d l t B=>b.inv.got _ p d l t (L j B);have B:Region.wanted o (yielded n T)=true:=by
   unfold Region.wanted;cases an:o.guard with
   | none=>rfl
   | some g =>
    obtain ⟨z,F⟩:=Y.2.2 g an;obtain ⟨av,d,U,N,A⟩:=hg g F;have:=A _ _ (Z g.1 av d U N z);have ak:d<T.size:=Nat.lt_of_lt_of_eq ((Xq J U).2.1 d N) b.inv.tsize.symm;simp [Qg U N ak this]
  refine ar i o r _ _ _ ?_;rw [if_pos B];by_cases Q:i=c
  ·subst Q;obtain ⟨w',H,aq⟩:=hlast o r T w b.inv.below b.inv.tsize b.inv.old (fun j p d l I t=>b.inv.got j p d l t
    (S9 R b.closed (fun au G=>by rw [r] at G;cases G;exact L) _ j rfl (by have:=(Array.getElem?_eq_some_iff.1 l).1;omega)))
   refine Or.inr (Or.inl ⟨w',H,Lz ?_ aq y⟩);cases V:Region.ready .any n (q.setIfInBounds i true) with
   | nil=>rfl
   | cons j js =>
    have l:j∈Region.ready .any n (q.setIfInBounds i true):=(by rw [V];simp);obtain ⟨E,p,ad,_⟩:=mem_ready.1 l;have aa:j<q.size:=(by have:=(Array.getElem?_eq_some_iff.1 ad).1;have:=b.inv.size;omega);by_cases e:i=j
    ·subst e;simp [aa] at E
    rw [getD_set_ne true e] at E;have z:=S9 R b.closed (fun au G=>by rw [r] at G;cases G;exact L) _ j rfl (by have:=(Array.getElem?_eq_some_iff.1 ad).1;omega);simp only [Array.getD,aa,dite_true] at z E;rw [z] at E;cases E
  have al:=hstep i o r Q T w b.inv.below b.inv.old Z;have next:∀ (v:Value) (w':World),D i v w'->zL w w'->XK n op M y (q.setIfInBounds i true) (Act.put ⟨T,W⟩ o.dst v) w':=by
   intro v w' A s;refine ih _ _ _ (by omega) ⟨?_,by rw [getD_set_ne true Q];exact b.open_,fun j p l x k ab=>?_⟩
   ·cases t:o.dst with
    | none =>
     refine ⟨by simpa using b.inv.size,b.inv.below.trans (s.mono b.inv.below.size),rfl,b.inv.tsize,b.inv.old,fun j p d l u x=>?_⟩;by_cases e:i=j
     ·subst e;rw [r] at l;cases l
      rw [t] at u;cases u
     rw [getD_set_ne false e] at x;exact X _ _ _ _ (b.inv.got j p d l u x) s
    | some d0 =>
     have aj:d0<T.size:=Nat.lt_of_lt_of_eq (Y.2.1 d0 t) b.inv.tsize.symm;refine ⟨by simpa using b.inv.size,b.inv.below.trans (s.mono b.inv.below.size),rfl,by simpa [Act.put] using b.inv.tsize,fun d S=>?_,fun j p d l u x=>?_⟩
     ·have I:d0≠d:=by
       rintro rfl;simp only [yQ,Array.all_eq_true_iff_forall_mem] at S;have:=S o (Array.mem_of_getElem? r);simp [t] at this
      have:=b.inv.old d S;simp only [Act.put] at this ⊢;rw [<-this];simp [Array.getElem?_setIfInBounds_ne I]
     by_cases e:i=j
     ·subst e;rw [r] at l;cases l
      rw [t] at u;cases u
      simpa [Act.put,aj] using A
     have I:d0≠d:=by
      rintro rfl;exact e (Pu J r l t u)
     rw [getD_set_ne false e] at x;have:=X _ _ _ _ (b.inv.got j p d l u x) s;simp only [Act.put] at this ⊢;simpa [Array.getElem?_setIfInBounds_ne I] using this
   have ae:∀ m,q.getD m false=true->(q.setIfInBounds i true).getD m false=true:=fun m ap=>by
    by_cases e:i=m
    ·subst e;have:i<q.size:=(by have:=(Array.getElem?_eq_some_iff.1 r).1;have:=b.inv.size;omega);simp [this]
    rw [getD_set_ne false e];exact ap
   by_cases e:i=j
   ·subst e;rw [r] at l;cases l
    exact ae k (L k ab)
   rw [getD_set_ne false e] at x;exact ae k (b.closed j p l x k ab)
  rcases al with ⟨v,w',H,A,s⟩ | ⟨f,args,H,ai⟩
  ·exact Or.inl ⟨v,w',H,next v w' A s⟩
  exact Or.inr (Or.inr ⟨f,args,H,Calls.mono ai fun e w' h=>by
   obtain ⟨v,O,A,s⟩:=h;exact ⟨v,O,next v w' A s⟩⟩)
theorem T4 {op:Nat->(Act->World->Prop)->Act->World->Prop} {P:Program} {t:Exit->Act->World->Prop} {l:Array Value} {df:List Deferred} {w:World} {a:Array Oper} (B:G4 P a op) (k:List Ka) (c:Nat)
 (u:WU a c=true) (z:Yf a [] l.size=true)
 (hstep:zc (fun i o=>i≠c->∀ (T:Array Value) (w':World),Below w.heap.size w w'->(∀ d,yQ a d=true->T.getD d undef=l.getD d undef) ->
  (∀ j d,Nb a i j d=true->yn k j (T.getD d undef) w')->zu P o (Act.eval ⟨T,df⟩) w' (yn k i)) a.toList 0)
 (hlast:∀ o,a[c]?=some o->∀ (T:Array Value) (w':World),Below w.heap.size w w'->T.size=l.size->(∀ d,yQ a d=true->T.getD d undef=l.getD d undef)->(∀ i d,i≠c->XA a i d=true->yn k i (T.getD d undef) w') ->
  ∃ x,(execOp (Act.eval ⟨T,df⟩) o).run P w'=.ok .skip x/\t .normal (Act.put ⟨T,df⟩ o.dst undef) x) :
 XK a op t a.size (Array.replicate a.size false) ⟨l,df⟩ (w.drewN 1):=by
 refine (JL (W0:=w.drewN 1) (df:=df) (D:=yn k) (gs:=[]) (c:=c) B u z (fun g hg=>by cases hg) (fun i v w w' h m=>(k.getD i (zl undef)).2 v w w' h m) (fun i o b p T w' m s n=>?_) (fun o b T w' m A s n=>?_) _ _ _ _ ?_ ?_)
 ·have:=hstep.at i o (by simpa using b);rw [Nat.zero_add] at this;refine this p T w' ((_root_.Go.below_drewN (Below.refl _ _) 1).trans m) s fun j d f=>?_;unfold Nb at f;rw [b] at f;cases r:a[j]? with
  | none=>rw [r] at f;cases f
  | some oj =>
   rw [r] at f;simp only [Bool.and_eq_true,beq_iff_eq] at f;exact n j oj d r f.2 f.1
 ·refine hlast o b T w' ((_root_.Go.below_drewN (Below.refl _ _) 1).trans m) A s fun i d p e=>?_;unfold XA at e;cases b:a[i]? with
  | none=>rw [b] at e;cases e
  | some o =>
   rw [b] at e;exact n i o d b p (by simpa using e)
 ·simp [Xv]
 ·refine ⟨⟨by simp,Below.refl _ _,rfl,rfl,fun _ _=>rfl,fun i o d b _ q=>by
   have e:i<a.size:=(Array.getElem?_eq_some_iff.1 b).1;simp [e] at q⟩,?_,fun i o b q=>by
   have e:i<a.size:=(Array.getElem?_eq_some_iff.1 b).1;simp [e] at q⟩
  have:=(Tg u).1;have y:c<a.size:=by omega
  simp [y]
theorem Qf {P:Program} {h:Exit->Act->World->Prop} {p:Nat} {b:Array Value} {df:List Deferred} {w:World} {g:Array Oper} (a:Array Oper) (f:g=a) (e:List Ka) (c:Nat) (m:P.follows .mixedOrders=true)
 (l:WU a c=true) (n:Yf a [] b.size=true)
 (hstep:zc (fun i o=>i≠c->∀ (T:Array Value) (w':World),Below w.heap.size w w'->(∀ d,(_:yQ a d=true:=by kernel_rfl)->T.getD d undef=b.getD d undef) ->
  (∀ j d,(_:Nb a i j d=true:=by kernel_rfl)->yn e j (T.getD d undef) w')->zu P o (Act.eval ⟨T,df⟩) w' (yn e i)) g.toList 0)
 (hlast:∀ o,a[c]?=some o->∀ (T:Array Value) (w':World),Below w.heap.size w w'->T.size=b.size->(∀ d,(_:yQ a d=true:=by kernel_rfl)->T.getD d undef=b.getD d undef)->(∀ i d,i≠c->(_:XA a i d=true:=by kernel_rfl)->yn e i (T.getD d undef) w') ->
  ∃ k,(execOp (Act.eval ⟨T,df⟩) o).run P w'=.ok .skip k/\h .normal (Act.put ⟨T,df⟩ o.dst undef) k) :
 (Code.region p g true).wp P h ⟨b,df⟩ w:=by
 have f:=f.symm;subst f;refine wp_region_any m ?_;rw [<-Tw];exact T4 Ov e c l n hstep hlast
theorem Tx {l n:Nat} {P:Program} {h:Exit->Act->World->Prop} {s:Nat} {b:Array Value} {df:List Deferred} {w:World} {g:Array Oper} (a:Array Oper) (f:g=a) (e:List Ka) (c:Nat) (p:P.follows .mixedOrders=true)
 (q:UG a=true) (m:WU a c=true) (r:Yf a [] b.size=true)
 (hstep:zc (fun i o=>i≠c->∀ (T:Array Value) (w':World),Below w.heap.size w w'->(∀ d,(_:yQ a d=true:=by kernel_rfl)->T.getD d undef=b.getD d undef) ->
  (∀ j d,(_:Nb a i j d=true:=by kernel_rfl)->yn e j (T.getD d undef) w')->zu P o (Act.eval ⟨T,df⟩) w' (yn e i)) g.toList 0)
 (hlast:∀ o,a[c]?=some o->∀ (T:Array Value) (w':World),Below w.heap.size w w'->T.size=b.size->(∀ d,(_:yQ a d=true:=by kernel_rfl)->T.getD d undef=b.getD d undef)->(∀ i d,i≠c->(_:XA a i d=true:=by kernel_rfl)->yn e i (T.getD d undef) w') ->
  ∃ k,(execOp (Act.eval ⟨T,df⟩) o).run P w'=.ok .skip k/\h .normal (Act.put ⟨T,df⟩ o.dst undef) k) :
 (Code.region s g true).wpIn (Fence.wide.inRound l) n P h ⟨b,df⟩ w:=by
 have f:=f.symm;subst f;refine wpIn_region_any p ?_;rw [<-N6];exact T4 (Hl q) e c m r hstep hlast
theorem wN {P:Program} {t:Exit->Act->World->Prop} {L:Nat} {m:Array Value} {df:List Deferred} {w:World} {s:Array Oper} (b:Array Oper) (F:s=b) (g:List Ka) (c:Nat) (I:P.follows .mixedOrders=true)
 (H:WU b c=true) (A:Yf b [] m.size=true)
 (hstep:zc (fun i o=>∀ (T:Array Value) (w':World),Below w.heap.size w w'->T.size=m.size\/i≠c->(∀ d,(_:yQ b d=true:=by kernel_rfl)->T.getD d undef=m.getD d undef) ->
  (∀ j d,(_:(Nb b i j d||((i==c)&&(j != c)&&XA b j d))=true:=by kernel_rfl)->yn g j (T.getD d undef) w') ->
  if i=c then ∃ B,(execOp (Act.eval ⟨T,df⟩) o).run P w'=.ok .skip B/\t .normal (Act.put ⟨T,df⟩ o.dst undef) B else zu P o (Act.eval ⟨T,df⟩) w' (yn g i)) s.toList 0) :
 (Code.region L s true).wp P t ⟨m,df⟩ w:=by
 have G:=F.symm;subst G;have v:∀ i o,b[i]?=some o->_:=fun i o f=>by
  have:=hstep.at i o (by simpa using f);rw [Nat.zero_add] at this;exact this
 have key:∀ (l:List Oper) (k:Nat),(∀ i o,l[i]?=some o->b[k+i]?=some o)->zc (fun i o=>i≠c->∀ (T:Array Value) (w':World),zL w w'->(∀ d,yQ b d=true->T.getD d undef=m.getD d undef) ->
  (∀ j d,Nb b i j d=true->yn g j (T.getD d undef) w')->zu P o (Act.eval ⟨T,df⟩) w' (yn g i)) l k:=by
  intro l
  induction l with
  | nil=>intro k _;exact trivial
  | cons o l ih =>
   intro k y;refine ⟨fun q T w' n r p=>?_,ih (k+1) fun i M h=>by rw [show k+1+i=k+(i+1) from by omega];exact y (i+1) M (by simpa using h)⟩;have:=v k o (by have:=y 0 o rfl;simpa using this) T w' n (Or.inr q) r (fun j d a=>by
    rw [beq_eq_false_iff_ne.2 q] at a;simp only [Bool.false_and,Bool.or_false] at a;exact p j d a)
   rwa [if_neg q] at this
 refine Qf b rfl g c I H A (key b.toList 0 fun i o h=>by rw [Nat.zero_add];simpa using h) fun o f T w' n J r p=>?_;have:=v c o f T w' n (Or.inl J) (fun d h=>r d h) (fun j d a=>by
  by_cases x:j=c
  ·subst x;exfalso;simp only [beq_self_eq_true,bne_self_eq_false,Bool.and_false,Bool.false_and,Bool.or_false] at a;unfold Nb at a;rw [f] at a;simp only [Bool.and_eq_true] at a;have C:=(Xq A f).1;have u:=a.1;simp only [yt,List.any_eq_true,Bool.and_eq_true,beq_iff_eq] at u;obtain ⟨e,E,D,N⟩:=u;have:=C e (by simpa using E) D;omega
  refine p j d x ?_;simp only [Bool.or_eq_true,Bool.and_eq_true] at a;rcases a with a | a
  ·unfold Nb at a;rw [f] at a;unfold XA;cases z:b[j]? with
   | none=>rw [z] at a;cases a
   | some oj=>rw [z] at a;simp only [Bool.and_eq_true] at a;exact a.2
  exact a.2)
 rwa [if_pos rfl] at this
end Go.Proofs.YtckpdfkobdgjeaaGreatDoor
