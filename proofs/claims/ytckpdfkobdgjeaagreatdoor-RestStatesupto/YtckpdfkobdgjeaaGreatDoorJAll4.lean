/- Several texts in one: BookM, AnyD, BookB, AnyE, OwnA. -/
import Derived.Test.YtckpdfkobdgjeaaGreatDoorJAll3
import Derived.Test.YtckpdfkobdgjeaaGreatDoorJAny
import Derived.Deep.AppendLies
import Derived.Deep.DeepCutAuto
import Derived.Deep.LoopGhost
namespace Go.Proofs.YtckpdfkobdgjeaaGreatDoor
set_option maxRecDepth 100000
set_option maxHeartbeats 4000000
open Go.RowKit
set_option linter.unusedSectionVars false
variable [Inhabited Mk]
theorem Ip {g:zd} (hg:zW g) {a b n:Int} (h:(yV g a b n).2=0):zW (yV g a b n).1/\∀ u:Nat,u<48->zn (yV g a b n).1 u=wJ g a b n u:=by
 unfold yV at h ⊢;rw [if_pos (zX.2 hg)] at h ⊢;by_cases d:(Xw a b&&bdd n)=true
 ·rw [if_pos d] at h ⊢;unfold Yc at h ⊢;by_cases c:wB (wJ g a b n) 48=true
  ·rw [if_pos c];exact ⟨ZP _ 48 (by omega) (by omega) c,fun u e=>Yj _ c u e⟩
  rw [if_neg c] at h;cases h
 rw [if_neg d] at h;cases h
theorem Nn {f:zd} {X:Bk} (d:zW f) (c:meets X.rq X.bs=true):∀ {k:Nat} {g:zd},k<=X.bs.length->xz f X.rq X.bs k=some g->zW g/\∀ u:Nat,u<48->zn g u=zn f u-yo X u k/\(yo X u k=0\/0<=zn g u)
 | 0,g,_,h=>by
  simp [xz] at h;subst h;exact ⟨d,fun u _=>by simp [yo]⟩
 | k+1,g,hk,h=>by
  rw [xz] at h;cases hn:xz f X.rq X.bs k with
  | none=>rw [hn] at h;cases h
  | some g0 =>
   rw [hn] at h;simp only at h;obtain ⟨l,m⟩:=Nn d c (k:=k) (g:=g0) (by omega) hn
   split at h
   ·rename_i h1
    split at h
    ·rename_i h2;injection h with h;subst h;obtain ⟨i,n⟩:=Ip l h1;obtain ⟨w,x,o,p,q,y,z,A⟩:=YC c (show k<X.bs.length by omega);have j:=(Ry i o q p).2.1 h2.2;refine ⟨i,fun u e=>?_⟩;have b:=n u e;obtain ⟨r,s⟩:=m u e;have t:=(Y6 c u k (by omega)).1;rw [yo];unfold wJ at b;unfold VM;have v:RC X.rq X.bs k=IL X.rq X.bs k:=rfl;by_cases a:rN X.bs k<=u/\u<rN X.bs k+lenOf X.rq X.bs k
     ·rw [if_pos a] at b;rw [if_pos a];have:=j u a.1 a.2;omega
     rw [if_neg a] at b;rw [if_neg a];omega
    cases h
   cases h
theorem Rn {f:zd} {X:Bk} (d:zW f) (e:meets X.rq X.bs=true) (b:Xl f X.rq X.bs=true) {u:Nat} (h:u<48):yo X u X.bs.length=0\/yo X u X.bs.length<=zn f u:=by
 unfold Xl at b;obtain ⟨g,hg⟩:=Option.isSome_iff_exists.1 b;obtain ⟨_,c⟩:=Nn d e (Nat.le_refl _) hg;obtain ⟨i,a⟩:=c u h;rcases a with a | a
 ·exact Or.inl a
 exact Or.inr (by omega)
theorem L2 {l:QL} {b:BL} (h:Clean l b) {q:Int} (d:q<l.length) {p:Nat} (i:(p:Int)∈zK l q) {t:Nat} (f:t<48):zn (xH l b q) t<=zn (qu l p).runs t-xh l b p t b.length:=by
 have e:=(UU h (zK l q) _ Tf (UC (yY h.tree) d)).2 t f;show zn (Zu l (zM l b b.length) [(0,1048576)] (zK l q)) t<=_;rw [e];have key:∀ (a:List Int) (x:Int),VP l (zM l b b.length) t x a<=x/\∀ y∈a,VP l (zM l b b.length) t x a<=Rz l (zM l b b.length) y t:=by
  intro a
  induction a with
  | nil=>intro x;exact ⟨Int.le_refl _,fun y c=>by cases c⟩
  | cons z a ih =>
   intro x;rw [VP];obtain ⟨d,g⟩:=ih (min x (Rz l (zM l b b.length) z t));refine ⟨by omega,fun y c=>?_⟩;rcases List.mem_cons.1 c with e | c
   ·subst e;omega
   exact g y c
 have:=(key (zK l q) (zn [(0,1048576)] t)).2 p i;unfold Rz at this;rw [Int.toNat_natCast,((ZT h b.length (Nat.le_refl _) p).2 t f).1] at this;exact this
theorem Zb {b:BL} {x:Bk} {i:Nat} (h:i<b.length):bk (b++[x]) i=bk b i:=by unfold bk;simp [List.getD,List.getElem?_append_left h]
theorem ZE {b:BL} {x:Bk}:bk (b++[x]) b.length=x:=by unfold bk;simp [List.getD]
theorem Oo {c n:Int} {l:QL} {b:BL} {X:Bk} (h:Sound c n l b) (zh:X.id=n) (j:yI l X.rq=0) (y:c<=X.rq.fr) (x:b.length<12) (hn:n<1048576)
 (f:meets X.rq X.bs=true) (u:Xl (xH l b X.rq.queue) X.rq X.bs=true):Sound c (n+1) l (b++[X]):=by
 have o:ZZ l X=0:=by unfold ZZ;rw [if_pos j,if_pos f]
 have s:Clean l (b++[X]):=⟨h.clean.tree,by simp;omega,fun i d=>by
  by_cases e:i<b.length
  ·rw [Zb e];exact h.clean.each i e
  obtain rfl:i=b.length:=by simp at d;omega
  rw [ZE];exact o⟩
 obtain ⟨_,z,p⟩:=y8 h.clean.tree o;have r:=XZ h.clean p;have v:=h.n0;refine ⟨s,h.c0,h.c48,by omega,by omega,fun i d=>?_,fun i d=>?_,fun q j t w k=>?_⟩
 ·by_cases e:i<b.length
  ·rw [Zb e];have m:=h.rise i e;refine ⟨?_,by omega⟩;have a:=m.1;unfold xd at a ⊢;by_cases g:i=0
   ·rw [if_pos g] at a ⊢;exact a
   rw [if_neg g] at a ⊢;rw [Zb (by omega)];exact a
  obtain rfl:i=b.length:=by simp at d;omega
  rw [ZE,zh];refine ⟨?_,by omega⟩;unfold xd
  split
  ·exact v
  rename_i g;rw [Zb (by omega)];have:=(h.rise (b.length-1) (by omega)).2;omega
 ·by_cases e:i<b.length
  ·rw [Zb e];exact h.alive i e
  obtain rfl:i=b.length:=by simp at d;omega
  rw [ZE,(Pk f).2];have:=YY f;omega
 ·rw [XI,List.map_append,List.sum_append,<-XI];simp only [List.map_cons,List.map_nil,List.sum_cons,List.sum_nil];have m:=h.fits q j t w k;unfold Tl
  split
  ·rename_i hl;rcases Rn r f u k with a | a
   ·omega
   have:=L2 h.clean p hl k;omega
  omega
theorem wK {b:BL} {i:Nat} {x:Bk} (h:x∈b.take i++b.drop (i+1)):x∈b:=by
 rcases List.mem_append.1 h with h | h
 ·exact List.mem_of_mem_take h
 exact List.mem_of_mem_drop h
theorem VW {b:BL} {i j:Nat} (c:i<b.length):bk (b.take i++b.drop (i+1)) j=if j<i then bk b j else bk b (j+1):=by
 unfold bk;rw [List.getD_eq_getElem?_getD,List.getElem?_append];have a:(b.take i).length=i:=by simp;omega
 rw [a];by_cases e:j<i
 ·rw [if_pos e,if_pos e,List.getElem?_take,if_pos e,List.getD_eq_getElem?_getD]
 rw [if_neg e,if_neg e,List.getElem?_drop,List.getD_eq_getElem?_getD,show i+1+(j-i)=j+1 from by omega]
theorem QH {c n:Int} {l:QL} {b:BL} (h:Sound c n l b) {i:Nat} (f:i<b.length):Sound c n l (b.take i++b.drop (i+1)):=by
 have o:(b.take i++b.drop (i+1)).length=b.length-1:=by simp;omega
 have p:Clean l (b.take i++b.drop (i+1)):=Tc h.clean (by have:=h.clean.few;omega) (fun x v=>wK v);refine ⟨p,h.c0,h.c48,h.n0,h.n1,fun j g=>?_,fun j g=>?_,fun q r t s u=>?_⟩
 ·rw [o] at g;rw [VW f];unfold xd;rw [VW f];by_cases e:j<i
  ·rw [if_pos e];have a:=h.rise j (by omega);unfold xd at a;by_cases d:j=0
   ·rw [if_pos d] at a ⊢;exact a
   rw [if_neg d] at a ⊢;rw [if_pos (by omega)];exact a
  rw [if_neg e];have a:=h.rise (j+1) (by omega);have m:=PW h (show j+1<b.length by omega);refine ⟨?_,a.2⟩;by_cases d:j=0
  ·rw [if_pos d];exact m.1
  rw [if_neg d];by_cases k:j-1<i
  ·rw [if_pos k];have:=YG h (j:=j+1) (by omega) (i:=j-1) (by omega);omega
  rw [if_neg k,show j-1+1=j from by omega];have:=YG h (j:=j+1) (by omega) (i:=j) (by omega);omega
 ·rw [o] at g;rw [VW f]
  split
  ·exact h.alive j (by omega)
  exact h.alive (j+1) (by omega)
 have a:=h.fits q r t s u;rw [XI,JD l q t f] at a;have m:=(LW (l:=l) (Uu h.clean (yx f)).1 q t).1;rw [XI];omega
structure Made (Z W3:World) (L S B:Nat) (aa:Option Addr) (bn k3:Nat) (b':BL) (X:Bk) (g9 k9:Nat):Prop where
 own:OwnBks Z S (.slice (zO g9 0) (bn+1) k9) (b'++[X])
 len:bn=b'.length
 ne:g9≠B
 low:S<=g9
 blk:∀ k,k<W3.heap.size->some k≠(Value.slice aa bn k3).ownBlock->Z.heap[k]?=W3.heap[k]?
 size:W3.heap.size<=Z.heap.size
 offP:∀ i,i<(b'++[X]).length->0<(bk (b'++[X]) i).rq.pn->∀ g off,(bk (b'++[X]) i).rq.pa=zO g off->L<=g/\g≠B
 offB:∀ i,i<(b'++[X]).length->0<(bk (b'++[X]) i).bn->∀ g off,(bk (b'++[X]) i).ba=zO g off->L<=g/\g≠B
theorem Made.later {a d c:World} {L S B:Nat} {e:Option Addr} {g j:Nat} {f:BL} {X:Bk} {i l:Nat} (h:Made a c L S B e g j f X i l) (b:Below a.heap.size a d):Made d c L S B e g j f X i l :=
 ⟨h.own.later b,h.len,h.ne,h.low,fun k m n=>(b.block k (by have:=h.size;omega)).trans (h.blk k m n),Nat.le_trans h.size b.size,h.offP,h.offB⟩
theorem Gn (w' q:World) (L S B:Nat) (s:Option Addr) (w v:Nat) (d:BL) (X:Bk) (A:Nat) (V:TypeId) (aa:OwnBks q S (.slice s w v) d) (y:Below q.heap.size q w')
 (Z:w'.heap[A]?=some (.cells #[zI X.id,zI X.rq.queue,zI X.rq.fr,zI X.rq.un,zI X.rq.kind,.slice X.rq.pa X.rq.pn X.rq.pc,.slice X.ba X.bn X.bc] 60 (0,0)))
 (ab:w=d.length) (ah:w<=12) (G:S<=q.heap.size) (aj:B<q.heap.size) (Q:RunsIn w' X.rq.pa X.rq.pn X.rq.pc X.rq.ps)
 (O:∀ i,i<d.length->(0<(bk d i).rq.pn->∀ g c,(bk d i).rq.pa=zO g c->L<=g/\g≠B)/\(0<(bk d i).bn->∀ g c,(bk d i).ba=zO g c->L<=g/\g≠B)) (ak:L<=S)
 (P:0<X.rq.pn->∀ b c,X.rq.pa=zO b c->q.heap.size<=b) (R:∀ g,(Value.slice s w v).ownBlock=some g->g≠B/\g<q.heap.size)
 (H:0<X.bn->∀ b c,X.ba=zO b c->(L<=b/\b≠B)/\b<q.heap.size/\(Value.slice s w v).ownBlock≠some b) (N:RunsIn w' X.ba X.bn X.bc X.bs) :
 ∃ o F x,(Builtin.append_ #[38,38] V #[.slice s w v,.slice (zO A 0) 1 1]).run Tryz.prog w'=.ok (.slice (zO o 0) (w+1) F) x/\Made x q L S B s w v d X o F/\Below S q x:=by
 subst ab;obtain ⟨ag,p,e⟩:=Option.map_eq_some_iff.1 Z5;simp only [Prod.mk.injEq] at e;obtain ⟨W,m,t⟩:=e;have r:=aa.later y;obtain ⟨o,F,x,Y,J,C,D,ai⟩:=run_append_lies w' 38 V S 60 ag _ 7 88 Tryz.underlying38 p W m t (by rfl) (by omega) (.slice s d.length v) d.length (ze d) r.row (zA A 0) 1 1 (zx X) (by simp [zx])
  (fun j u I=>by rw [Addr.add_lit,Nat.zero_add,cell_of_row w' A j _ _ _ Z];simpa [zx] using I) (fun u I=>y7 [X] u (by simpa [ze] using I)) (by omega) (by simp only [maxLen];omega) (by omega) (Nat.le_trans G y.size) w'.heap.size rfl
 have af:=J.lt o rfl;have z:(Value.slice s d.length v).ownBlock=some o\/w'.heap.size<=o:=by
  rcases D with D | D
  ·exact Or.inl D
  exact Or.inr (by omega)
 have E:∀ {a:Option Addr} {n cap:Nat} {l:zd},RunsIn w' a n cap l->(0<n->∀ b c,a=zO b c->(Value.slice s d.length v).ownBlock≠some b)->RunsIn x a n cap l:=fun h hn=>h.of_away fun f b c e=>C.block b (h.lt f e) (fun m=>hn f b c e m.symm);have U:=y.size;have M:0<X.rq.pn->∀ b c,X.rq.pa=zO b c->(Value.slice s d.length v).ownBlock≠some b:=fun f b c e m=>by have:=P f b c e;have:=(R b m).2;omega
 refine ⟨o,F,x,Y,⟨⟨?_,fun i p=>?_,fun i p=>?_,fun i p f g c e m=>?_,fun i p f g c e m=>?_⟩,rfl,?_,af.1,fun k ad ae=>?_,Nat.le_trans U C.size,fun i p=>?_,fun i p=>?_⟩,?_⟩
 ·rw [List.length_append,List.length_singleton,xw];have:ze [X]=zx X:=by simp [ze]
  rw [this];exact J
 ·by_cases e:i<d.length
  ·rw [Zb e];exact E (r.rqs i e) (r.farP i e)
  obtain rfl:i=d.length:=by simp at p;omega
  rw [ZE];exact E Q M
 ·by_cases e:i<d.length
  ·rw [Zb e];exact E (r.bites i e) (r.farB i e)
  obtain rfl:i=d.length:=by simp at p;omega
  rw [ZE];exact E N (fun f b c e=>(H f b c e).2.2)
 ·have m:o=g:=by simpa [Value.ownBlock] using m
  subst m;by_cases t:i<d.length
  ·rw [Zb t] at f e;rcases z with h | h
   ·exact r.farP i t f o c e h
   have:=RunsIn.lt (r.rqs i t) f e;omega
  obtain rfl:i=d.length:=by simp at p;omega
  rw [ZE] at f e;rcases z with h | h
  ·exact M f o c e h
  have:=Q.lt f e;omega
 ·have m:o=g:=by simpa [Value.ownBlock] using m
  subst m;by_cases t:i<d.length
  ·rw [Zb t] at f e;rcases z with h | h
   ·exact r.farB i t f o c e h
   have:=(r.bites i t).lt f e;omega
  obtain rfl:i=d.length:=by simp at p;omega
  rw [ZE] at f e;rcases z with h | h
  ·exact (H f o c e).2.2 h
  have:=N.lt f e;omega
 ·rcases z with h | h
  ·exact (R o h).1
  omega
 ·rw [C.block k (by omega) ae];exact y.block k ad
 ·by_cases e:i<d.length
  ·rw [Zb e];exact (O i e).1
  obtain rfl:i=d.length:=by simp at p;omega
  rw [ZE];intro f g c m;have:=P f g c m;omega
 ·by_cases e:i<d.length
  ·rw [Zb e];exact (O i e).2
  obtain rfl:i=d.length:=by simp at p;omega
  rw [ZE];exact fun f g c m=>(H f g c m).1
 ·exact (y.mono G).grown C (Nat.le_trans G U) (fun k e=>(r.row.lt k e).1)
structure Made2 (Z W3:World) (L S B:Nat) (aa:Option Addr) (bn k3:Nat) (b':BL) (X:Bk) (g9 k9:Nat) (c n:Int) (tv:Value):Prop where
 own:OwnBks Z S (.slice (zO g9 0) (bn+1) k9) (b'++[X])
 len:bn=b'.length
 low:S<=g9
 box:zj Z B (zI c) (zI n) tv (.slice (zO g9 0) (bn+1) k9)
 blk:∀ k,k<W3.heap.size->k≠B->some k≠(Value.slice aa bn k3).ownBlock->Z.heap[k]?=W3.heap[k]?
 size:W3.heap.size<=Z.heap.size
 ne:g9≠B
 offP:∀ i,i<(b'++[X]).length->0<(bk (b'++[X]) i).rq.pn->∀ g off,(bk (b'++[X]) i).rq.pa=zO g off->L<=g/\g≠B
 offB:∀ i,i<(b'++[X]).length->0<(bk (b'++[X]) i).bn->∀ g off,(bk (b'++[X]) i).ba=zO g off->L<=g/\g≠B
theorem Made2.later {b e d:World} {L S B:Nat} {f:Option Addr} {i l:Nat} {g:BL} {X:Bk} {j m:Nat} {c n:Int} {o:Value} (h:Made2 b d L S B f i l g X j m c n o) (a:Below b.heap.size b e):Made2 e d L S B f i l g X j m c n o :=
 ⟨h.own.later a,h.len,h.low,h.box.later a,fun k p q r=>(a.block k (by have:=h.size;omega)).trans (h.blk k p q r),Nat.le_trans h.size a.size,h.ne,h.offP,h.offB⟩
theorem Made.store {a d:World} {L S B:Nat} {f:Option Addr} {b j:Nat} {u:BL} {X:Bk} {l m:Nat} (h:Made a d L S B f b j u X l m) (x:Below S d a) {c n:Int} {t:Value} (w:zj d B (zI c) (zI n) t (.slice f b j)/\some B≠(Value.slice f b j).ownBlock) (v:S<=B/\B<d.heap.size) :
 Made2 (a.setCell (zA B 3) (.slice (zO l 0) (b+1) m)) d L S B f b j u X l m c n t/\a.cell? (zA B 3)=some (.slice f b j)/\a.frozen? (zA B 3)=false/\Below S d (a.setCell (zA B 3) (.slice (zO l 0) (b+1) m)):=by
 have r:zj a B (zI c) (zI n) t (.slice f b j):=(h.blk B v.2 w.2).trans w.1;refine ⟨⟨?_,h.len,h.low,?_,fun k y z A=>?_,?_,h.ne,h.offP,h.offB⟩,r.cells.2.2.2,frozen_of_row a B 3 _ _ r,x.setCell (p:=(zA B 3)) v.1 _⟩
 ·refine h.own.blocks (fun g e=>heap_setCell_other a (zA B 3) g _ ?_) (fun i o q g s e=>heap_setCell_other a (zA B 3) g _ (h.offP i o q g s e).2) (fun i o q g s e=>heap_setCell_other a (zA B 3) g _ (h.offB i o q g s e).2);have e:l=g:=by simpa [Value.ownBlock] using e
  subst e;exact h.ne
 ·unfold zj;rw [heap_setCell_same a B 3 _ _ _ r];rfl
 ·rw [heap_setCell_other a (zA B 3) k _ z];exact h.blk k y A
 ·have:=h.size;simp only [World.setCell,Array.size_modify];omega
def Qh (w:World) (b:Nat) (t:TypeId):Prop:=∃ cs fr,w.heap[b]?=some (.cells cs t fr)
theorem Qh.later {w w':World} {b:Nat} {t:TypeId} (h:Qh w b t) (a:Below w.heap.size w w'):Qh w' b t:=by
 obtain ⟨cs,fr,h⟩:=h;exact ⟨cs,fr,(a.block b (Array.getElem?_eq_some_iff.1 h).1).trans h⟩
theorem Qh.away {w w':World} {b:Nat} {t:TypeId} (h:Qh w b t) (a:w'.heap[b]?=w.heap[b]?):Qh w' b t:=by
 obtain ⟨cs,fr,h⟩:=h;exact ⟨cs,fr,a.trans h⟩
theorem Qh.lt {w:World} {b:Nat} {t:TypeId} (h:Qh w b t):b<w.heap.size:=by
 obtain ⟨cs,fr,h⟩:=h;exact (Array.getElem?_eq_some_iff.1 h).1
theorem U7 (t e:TypeId) (d:TypeInfo) (z:Value) (F:Tryz.prog.underlying t=some (.slice e)) (q:Tryz.prog.info? e=some d) (s:d.zero=some z) (x:d.size=2) (y:d.bytes=16)
 (w:World) (a:Addr) (n c:Nat) (l:zd) (h:RunsIn w (some a) n c l) (H:0<n) (hn:n<=1000) :
 ∃ g k w',(∀ (m:Addr) (o:TypeId),(Builtin.append_ #[t,t] o #[.slice (some m) 0 0,.slice (some a) n c]).run Tryz.prog w=.ok (.slice (zO g 0) n k) w')/\RunsIn w' (zO g 0) n k l/\w.heap.size<=g/\Below w.heap.size w w'/\Qh w' g e:=by
 have D:(cellsOf l).length=n*2:=by rw [xL,h.len]
 have A:Builtin.nextslicecap (0+n) 0*16<=281474976710656:=by
  have:Builtin.nextslicecap (0+n) 0=n:=by
   unfold Builtin.nextslicecap;simp;omega
  omega
 have hg:=fun (m:Addr) (o:TypeId)=>run_append_grow (P:=Tryz.prog) w t o e d z F q s m 0 0 [] (by simp) (fun j v G=>by simp at G) a n c (cellsOf l) (by rw [D,x]) (fun j u f=>h.list j u f) (by omega) (by omega) (by rw [y];exact A);simp only [Nat.zero_add] at hg;refine ⟨_,_,_,hg,?_,Nat.le_refl _,(_root_.Go.below_drewN (Below.refl w.heap.size w) 1).alloc (Nat.le_refl _) _,⟨_,_,heap_alloc_new w.drew _⟩⟩;have B:=grownCap_ge w n 0 e;have p:=grownCap_le_maxLen w n 0 e (by simp only [maxLen];omega);simp only [maxLen] at p;refine ⟨h.len,B,h.bound,p,fun _=>⟨w.heap.size,0,rfl,fun i q=>?_⟩,fun _ b I e=>by cases e;exact Or.inr ⟨_,_,heap_alloc_new w.drew _⟩⟩;have E:(w.drew.alloc (.cells ([].toArray++(cellsOf l).toArray++Builtin.zeroCells z.cells (grownCap w n 0 e-n)) e)).heap[w.heap.size]?=some (.cells ([].toArray++(cellsOf l).toArray++Builtin.zeroCells z.cells (grownCap w n 0 e-n)) e (0,0)):=heap_alloc_new w.drew _;have key:∀ j u,(cellsOf l)[j]?=some u->(w.drew.alloc (.cells ([].toArray++(cellsOf l).toArray++Builtin.zeroCells z.cells (grownCap w n 0 e-n)) e)).cell? (zA w.heap.size j)=some u:=fun j u f=>by
  rw [cell_of_row _ w.heap.size j _ _ _ E];have C:j<(cellsOf l).length:=(List.getElem?_eq_some_iff.1 f).1;rw [Array.getElem?_append_left (by simpa using C)];simpa using f
 have r:i<l.length:=by have:=h.len;omega
 exact ⟨by rw [Nat.zero_add];exact key _ _ (xr l i r),by rw [Nat.zero_add];exact key _ _ (xJ l i r)⟩
theorem O0 (w:World) (a:Addr) (n c:Nat) (l:zd) (h:RunsIn w (some a) n c l) (f:0<n) (hn:n<=1000) :
 ∃ g k w',(∀ (b:Addr) (m:TypeId),(Builtin.append_ #[25,25] m #[.slice (some b) 0 0,.slice (some a) n c]).run Tryz.prog w=.ok (.slice (zO g 0) n k) w')/\RunsIn w' (zO g 0) n k l/\w.heap.size<=g/\Below w.heap.size w w'/\Qh w' g 55:=by
 obtain ⟨j,d,e⟩:=Option.map_eq_some_iff.1 (show (Tryz.prog.info? 55).map (fun i=>(i.zero,i.size,i.bytes))=some (some (.agg #[zI 0,zI 0]),2,16) from by kernel_rfl);simp only [Prod.mk.injEq] at e;exact U7 _ _ j _ Tryz.underlying25 d e.1 e.2.1 e.2.2 w a n c l h f hn
theorem MC (w:World) (a:Addr) (n c:Nat) (l:zd) (h:RunsIn w (some a) n c l) (f:0<n) (hn:n<=1000) :
 ∃ g k w',(∀ (b:Addr) (m:TypeId),(Builtin.append_ #[22,22] m #[.slice (some b) 0 0,.slice (some a) n c]).run Tryz.prog w=.ok (.slice (zO g 0) n k) w')/\RunsIn w' (zO g 0) n k l/\w.heap.size<=g/\Below w.heap.size w w'/\Qh w' g 64:=by
 obtain ⟨j,d,e⟩:=Option.map_eq_some_iff.1 (show (Tryz.prog.info? 64).map (fun i=>(i.zero,i.size,i.bytes))=some (some (.agg #[zI 0,zI 0]),2,16) from by kernel_rfl);simp only [Prod.mk.injEq] at e;exact U7 _ _ j _ Tryz.underlying22 d e.1 e.2.1 e.2.2 w a n c l h f hn
theorem Kj (w:World) (a:Addr) (n c:Nat) (l:zd) (h:RunsIn w (some a) n c l) (f:0<n) (hn:n<=1000) :
 ∃ g k w',(∀ (b:Addr) (m:TypeId),(Builtin.append_ #[58,58] m #[.slice (some b) 0 0,.slice (some a) n c]).run Tryz.prog w=.ok (.slice (zO g 0) n k) w')/\RunsIn w' (zO g 0) n k l/\w.heap.size<=g/\Below w.heap.size w w'/\Qh w' g 62:=by
 obtain ⟨j,d,e⟩:=Option.map_eq_some_iff.1 (show (Tryz.prog.info? 62).map (fun i=>(i.zero,i.size,i.bytes))=some (some (.agg #[zI 0,zI 0]),2,16) from by kernel_rfl);simp only [Prod.mk.injEq] at e;exact U7 _ _ j _ Tryz.underlying58 d e.1 e.2.1 e.2.2 w a n c l h f hn
theorem TZ:∀ a b:QL,yE (a++b)=yE a++yE b
 | [],_=>rfl
 | x::a,b=>by
  show wH x++yE (a++b)=wH x++yE a++yE b;rw [TZ a b,List.append_assoc]
theorem Od {a b:QL} {i:Nat} (h:i<a.length):qu (a++b) i=qu a i:=by
 unfold qu;rw [List.getD_eq_getElem?_getD,List.getD_eq_getElem?_getD,List.getElem?_append_left h]
theorem Oe (a:QL) (x:Qu):qu (a++[x]) a.length=x:=by
 unfold qu;simp
theorem Ja:(Tryz.prog.info? 66).map (fun i=>(i.zero,i.size,i.bytes))=some (some (.agg #[.string .empty,zI 0,zN]),3,48):=by kernel_rfl
theorem Gy (w:World) (B:Nat) (v:Value) (c:QL) (m:OwnQs w B v c) (X:Qu) (p:Nat) (E:TypeId) (M:w.heap[p]?=some (.cells #[.string X.name,zI X.parent,.slice X.ca X.cn X.cc] 66 (0,0)))
 (D:RunsIn w X.ca X.cn X.cc X.runs) (N:X.name.size<=9223372036854775807) (z:0<X.cn->∀ b f,X.ca=zO b f->v.ownBlock≠some b) (R:c.length<=999) (x:B<=w.heap.size) :
 ∃ F w',(Builtin.append_ #[37,37] E #[v,.slice (zO p 0) 1 1]).run Tryz.prog w=.ok F w'/\OwnQs w' B F (c++[X])/\Below B w w'/\∀ b,b<w.heap.size->v.ownBlock≠some b->w'.heap[b]?=w.heap[b]?:=by
 obtain ⟨O,o,e⟩:=Option.map_eq_some_iff.1 Ja;simp only [Prod.mk.injEq] at e;obtain ⟨G,d,H⟩:=e;obtain ⟨t,P,w',I,J,q,L,Q⟩:=run_append_lies w 37 E B 66 O _ 3 48 Tryz.underlying37 o G d H (by rfl) (by omega) v c.length (yE c) m.row (zA p 0) 1 1 (wH X) (by simp [wH])
  (fun j u r=>by rw [Addr.add_lit,Nat.zero_add,cell_of_row w p j _ _ _ M];simpa [wH] using r) (fun u r=>Vf [X] u (by simpa [yE] using r)) (by omega) (by simp only [maxLen];omega) (by omega) x w.heap.size rfl
 have C:∀ {a:Option Addr} {n cap:Nat} {l:zd},RunsIn w a n cap l->(0<n->∀ b f,a=zO b f->v.ownBlock≠some b)->RunsIn w' a n cap l:=fun h hn=>h.of_away fun g b f e=>q.block b (h.lt g e) (fun d=>hn g b f e d.symm);have A:∀ b,b<w.heap.size->v.ownBlock≠some b->(Value.slice (zO t 0) (c.length+1) P).ownBlock≠some b:=fun b y s e=>by
  have e:t=b:=by simpa [Value.ownBlock] using e
  subst e;rcases L with h | h
  ·exact s h
  omega
 refine ⟨_,w',I,⟨?_,fun i o=>?_,fun i o=>?_,fun i o=>?_⟩,(Below.refl B w).grown q x (fun k e=>(m.row.lt k e).1),fun b y s=>q.block b y (fun e=>s e.symm)⟩
 ·rw [List.length_append,List.length_singleton,TZ];have:yE [X]=wH X:=by simp [yE]
  rw [this];exact J
 ·by_cases e:i<c.length
  ·rw [Od e];exact C (m.caps i e) (m.far i e)
  obtain rfl:i=c.length:=by simp at o;omega
  rw [Oe];exact C D z
 ·by_cases e:i<c.length
  ·rw [Od e];exact fun g b f d=>A b ((m.caps i e).lt g d) (m.far i e g b f d)
  obtain rfl:i=c.length:=by simp at o;omega
  rw [Oe];exact fun g b f d=>A b (D.lt g d) (z g b f d)
 ·by_cases e:i<c.length
  ·rw [Od e];exact m.names i e
  obtain rfl:i=c.length:=by simp at o;omega
  rw [Oe];exact N
theorem MH {l b:QL} {k:Nat} {X:Qu} (h:zi b=zi (l.take k)) (a:k<l.length) (d:X.bare=(qu l k).bare):zi (b++[X])=zi (l.take (k+1)):=by
 have c:l.take (k+1)=l.take k++[qu l k]:=by
  rw [List.take_succ_eq_append_getElem a]
  congr 2
  unfold qu;simp [List.getD,a]
 rw [c];unfold zi at *;rw [List.map_append,List.map_append,h];simp [d]
theorem TX (w:World) (a:Option Addr) (n M:Nat) (l:QL) (h:QsIn w a n M l) (ai:0<n) (hn:n<=999) (aM:∀ i,i<n->0<(qu l i).cn/\(qu l i).cn<=1000) :
 zC 58 #[.slice a n M] w fun e w'=>∃ g ag aa,e=.returned (.slice (zO g 0) n ag)/\OwnQs w' w.heap.size (.slice (zO g 0) n ag) aa/\n=aa.length/\zi aa=zi l/\Below w.heap.size w w'/\∀ i,i<n->0<(qu aa i).cn->∀ b R,(qu aa i).ca=zO b R->w.heap.size<=b/\Qh w' b 55:=by
 obtain ⟨I,J,rfl,aJ⟩:=h.cells ai;obtain ⟨B,ak⟩:=qA (w.heap.size);have bg:=h.le;have be:=h.capb;have ay:=zh h.len;have ax:=zh h;have aU:=zh aJ;have aW:=zh aM;have au:=zh ak;clear h aJ aM;rw [ak];clear ak;go_enter Tryz.func58,Tryz.ntmps58;go_wp2_with fail
 go_loopg [3,4] n (fun a0 (v p:Value) wr=>∃ (k:Nat) (G:QL),p=zI k/\k<=n/\a0=n-k/\G.length=k/\OwnQs wr B v G/\zi G=zi (l.take k)/\(∀ i,i<k->0<(qu G i).cn->∀ b R,(qu G i).ca=zO b R->B<=b/\Qh wr b 55)/\Below B w wr)
 case atStart=>exact ⟨0,[],rfl,by omega,by omega,rfl,⟨World.ownsRow_nil _ _ _ _,fun i Q=>absurd Q (Nat.not_lt_zero i),fun i Q=>absurd Q (Nat.not_lt_zero i),fun i Q=>absurd Q (Nat.not_lt_zero i)⟩,rfl,fun i Q=>absurd Q (Nat.not_lt_zero i),Below.refl _ _⟩
 case round =>
  obtain ⟨k,G,rfl,bf,rfl,ao,L,am,F,Y⟩:=hrel;have W:B<=wr.heap.size:=by have:=Y.size;have:=au.o;omega
  have aw:=zh Y;have ae:=zh ao;have av:=zh am;have az:=zh F;have af:=zh L;by_cases ah:k<n
  ·have bh:(k:Int)<n:=(by omega);have a5:G.length<=999:=(by omega);have P:Below w.heap.size w wr:=(by rw [au.o];exact Y);obtain ⟨ab,ad,V⟩:=aU.o k ah;have Z:=ax.o.caps k ah;have ar:=ax.o.names k ah;obtain ⟨an,aL⟩:=aW.o k ah;obtain ⟨m,al⟩:=qA (qu l k);rw [al] at ab ad V Z ar an aL;obtain ⟨aB,aD,aK,_⟩:=Z.cells an;rw [aK] at V Z;have ab:=zh (cell_later P ab);have ad:=zh (cell_later P ad);have V:=zh (cell_later P V);have aV:=zh (Z.later P);have aY:=zh ar;have aX:=zh al;have aA:Zh (∀ b,wr.heap.size<=b->u3.ownBlock≠some b):=fun b f e=>by have:=(af.o.row.lt b e).2;omega
   clear Y ao L am F Z ar aK al P;go_wp2_with fail
   refine Vr ((Tryz.f58.body.bind fun c=>yi c 5).getD #[]) (by kernel_rfl) [zl (u3),zl (.slice (zO I J) n M),zl (zI k),zl (.pointer (zO I (J+k*3))),zl (.pointer (zO I (J+k*3))),zl (.string m.name),zl (.slice (zO I J) n M),zl (zI k),zl (.pointer (zO I (J+k*3))),zl (.pointer (zO I (J+k*3+1))),zl (zI m.parent),⟨fun u _=>∃ aG,u=.slice (zO aG 0) 0 0,fun _ _ _ h _=>h⟩,zl (.slice (zO I J) n M),zl (zI k),zl (.pointer (zO I (J+k*3))),zl (.pointer (zO I (J+k*3+2))),zl (.slice (zO aB aD) m.cn m.cc),⟨fun u y=>∃ j s,u=.slice (zO j 0) m.cn s/\RunsIn y (zO j 0) m.cn s m.runs/\wr.heap.size<=j/\Qh y j 55,fun _ _ _ ⟨j,s,x,A,D,H⟩ f=>⟨j,s,x,A.later f,D,H.later f⟩⟩,⟨fun u y=>∃ j s,u=.agg #[.string m.name,zI m.parent,.slice (zO j 0) m.cn s]/\RunsIn y (zO j 0) m.cn s m.runs/\wr.heap.size<=j/\Qh y j 55,fun _ _ _ ⟨j,s,x,A,D,H⟩ f=>⟨j,s,x,A.later f,D,H.later f⟩⟩,⟨fun u y=>∃ j s S,u=.slice (zO S 0) 1 1/\y.heap[S]?=some (.cells #[.string m.name,zI m.parent,.slice (zO j 0) m.cn s] 66 (0,0))/\RunsIn y (zO j 0) m.cn s m.runs/\wr.heap.size<=j/\Qh y j 55,fun _ _ _ ⟨j,s,S,x,A,D,H,N⟩ f=>⟨j,s,S,x,(f.block _ (Array.getElem?_eq_some_iff.1 A).1).trans A,D.later f,H,N.later f⟩⟩,⟨fun u y=>∃ j s,OwnQs y B u (G++[⟨m.name,m.parent,zO j 0,m.cn,s,m.runs⟩])/\wr.heap.size<=j/\Below B wr y/\Qh y j 55/\∀ b,b<wr.heap.size->u3.ownBlock≠some b->y.heap[b]?=wr.heap[b]?,fun _ y m ⟨j,s,x,A,D,H,N⟩ f=>⟨j,s,x.later f,A,D.trans (f.mono (Nat.le_trans W D.size)),H.later f,fun b O X=>(f.block b (Nat.lt_of_lt_of_le O D.size)).trans (N b O X)⟩⟩,⟨fun u y=>∃ j s,OwnQs y B u (G++[⟨m.name,m.parent,zO j 0,m.cn,s,m.runs⟩])/\wr.heap.size<=j/\Below B wr y/\Qh y j 55/\∀ b,b<wr.heap.size->u3.ownBlock≠some b->y.heap[b]?=wr.heap[b]?,fun _ y m ⟨j,s,x,A,D,H,N⟩ f=>⟨j,s,x.later f,A,D.trans (f.mono (Nat.le_trans W D.size)),H.later f,fun b O X=>(f.block b (Nat.lt_of_lt_of_le O D.size)).trans (N b O X)⟩⟩] [] [(20,[17,18,19])] B (W) (by kernel_rfl) (by kernel_rfl) (by kernel_rfl) (by kernel_rfl) ?hg ?hstep ?hfin
   case hg =>
    intro g hg v w h;cases hg
   case hstep =>
    refine zc.cons 1 rfl ?_ ?_
    ·intro T w' r C t q;show zu Tryz.prog _ _ _ _;have f:=r (by kernel_rfl);have z:T.getD 3 undef=u3:=t 3;exact zs (by go_simp) rfl
    refine zc.cons 2 rfl ?_ ?_
    ·intro T w' r C t q;show zu Tryz.prog _ _ _ _;have f:=r (by kernel_rfl);have z:T.getD 0 undef=.slice (zO I J) n M:=t 0;exact zs (by go_simp) rfl
    refine zc.cons 3 rfl ?_ ?_
    ·intro T w' r C t q;show zu Tryz.prog _ _ _ _;have f:=r (by kernel_rfl);have z:T.getD 4 undef=zI k:=t 4;exact zs (by go_simp) rfl
    refine zc.cons 4 rfl ?_ ?_
    ·intro T w' r C t q;show zu Tryz.prog _ _ _ _;have f:=r (by kernel_rfl);have z:T.getD 12 undef=_:=q 1 12;have x:T.getD 13 undef=_:=q 2 13;exact zs (by go_simp) rfl
    refine zc.cons 5 rfl ?_ ?_
    ·intro T w' r C t q;show zu Tryz.prog _ _ _ _;have f:=r (by kernel_rfl);have z:T.getD 14 undef=_:=q 3 14;exact zs (by go_simp) rfl
    refine zc.cons 6 rfl ?_ ?_
    ·intro T w' r C t q;show zu Tryz.prog _ _ _ _;have f:=r (by kernel_rfl);have z:T.getD 15 undef=_:=q 4 15;have aC:=cell_later f ab.o;exact zs (by go_simp) rfl
    refine zc.cons 7 rfl ?_ ?_
    ·intro T w' r C t q;show zu Tryz.prog _ _ _ _;have f:=r (by kernel_rfl);have z:T.getD 0 undef=.slice (zO I J) n M:=t 0;exact zs (by go_simp) rfl
    refine zc.cons 8 rfl ?_ ?_
    ·intro T w' r C t q;show zu Tryz.prog _ _ _ _;have f:=r (by kernel_rfl);have z:T.getD 4 undef=zI k:=t 4;exact zs (by go_simp) rfl
    refine zc.cons 9 rfl ?_ ?_
    ·intro T w' r C t q;show zu Tryz.prog _ _ _ _;have f:=r (by kernel_rfl);have z:T.getD 17 undef=_:=q 6 17;have x:T.getD 18 undef=_:=q 7 18;exact zs (by go_simp) rfl
    refine zc.cons 10 rfl ?_ ?_
    ·intro T w' r C t q;show zu Tryz.prog _ _ _ _;have f:=r (by kernel_rfl);have z:T.getD 19 undef=_:=q 8 19;exact zs (by go_simp) rfl
    refine zc.cons 11 rfl ?_ ?_
    ·intro T w' r C t q;show zu Tryz.prog _ _ _ _;have f:=r (by kernel_rfl);have z:T.getD 20 undef=_:=q 9 20;have aC:=cell_later f ad.o;exact zs (by go_simp) rfl
    refine zc.cons 12 rfl ?_ ?_
    ·intro T w' r C t q;show zu Tryz.prog _ _ _ _;have f:=r (by kernel_rfl);exact Or.inl ⟨.slice (zO w'.heap.size 0) 0 0,w'.alloc (.cells #[] 55),by go_simp,⟨_,rfl⟩,zr _ _⟩
    refine zc.cons 13 rfl ?_ ?_
    ·intro T w' r C t q;show zu Tryz.prog _ _ _ _;have f:=r (by kernel_rfl);have z:T.getD 0 undef=.slice (zO I J) n M:=t 0;exact zs (by go_simp) rfl
    refine zc.cons 14 rfl ?_ ?_
    ·intro T w' r C t q;show zu Tryz.prog _ _ _ _;have f:=r (by kernel_rfl);have z:T.getD 4 undef=zI k:=t 4;exact zs (by go_simp) rfl
    refine zc.cons 15 rfl ?_ ?_
    ·intro T w' r C t q;show zu Tryz.prog _ _ _ _;have f:=r (by kernel_rfl);have z:T.getD 23 undef=_:=q 12 23;have x:T.getD 24 undef=_:=q 13 24;exact zs (by go_simp) rfl
    refine zc.cons 16 rfl ?_ ?_
    ·intro T w' r C t q;show zu Tryz.prog _ _ _ _;have f:=r (by kernel_rfl);have z:T.getD 25 undef=_:=q 14 25;exact zs (by go_simp) rfl
    refine zc.cons 17 rfl ?_ ?_
    ·intro T w' r C t q;show zu Tryz.prog _ _ _ _;have f:=r (by kernel_rfl);have z:T.getD 26 undef=_:=q 15 26;have aC:=cell_later f V.o;exact zs (by go_simp) rfl
    refine zc.cons 18 rfl ?_ ?_
    ·intro T w' r C t q;show zu Tryz.prog _ _ _ _;have f:=r (by kernel_rfl);obtain ⟨aG,z⟩:=q 11 22;have x:T.getD 27 undef=_:=q 16 27;obtain ⟨j,s,aj,ap,U,hg,a2,a6⟩:=O0 w' (zA aB aD) m.cn m.cc m.runs (aV.o.later f) an aL;exact Or.inl ⟨.slice (zO j 0) m.cn s,aj,Ze (.tmp 22) (.tmp 27) 25 rfl _ _ z x (ap _ _),⟨j,s,rfl,U,Nat.le_trans f.size hg,a6⟩,a2⟩
    refine zc.cons 19 rfl ?_ ?_
    ·intro T w' r C t q;show zu Tryz.prog _ _ _ _;have f:=r (by kernel_rfl);have z:T.getD 16 undef=_:=q 5 16;have x:T.getD 21 undef=_:=q 10 21;obtain ⟨j,s,A,U,F⟩:=q 17 28;have bc:T[16]?.getD undef=.string m.name:=(by rw [<-z];simp);have a1:T[21]?.getD undef=zI m.parent:=(by rw [<-x];simp);have bd:T[28]?.getD undef=.slice (zO j 0) m.cn s:=(by rw [<-A];simp);exact Or.inl ⟨.agg #[.string m.name,zI m.parent,.slice (zO j 0) m.cn s],w',by go_simp,⟨j,s,rfl,U,F⟩,Below.refl _ _⟩
    refine zc.cons 20 rfl ?_ ?_
    ·intro T w' r C t q;show zu Tryz.prog _ _ _ _;have f:=r (by kernel_rfl);obtain ⟨j,s,x,U,F⟩:=q 18 29;have a1:T[29]?.getD undef=.agg #[.string m.name,zI m.parent,.slice (zO j 0) m.cn s]:=(by rw [<-x];simp);exact Or.inl ⟨.slice (zO w'.heap.size 0) 1 1,w'.alloc (.cells #[.string m.name,zI m.parent,.slice (zO j 0) m.cn s] 66),by go_simp,⟨j,s,w'.heap.size,rfl,heap_alloc_new w' _,U.later (zr _ _),F.1,F.2.later (zr _ _)⟩,zr _ _⟩
    refine zc.cons 21 rfl ?_ ?_
    ·intro T w' r C t q;show Xd Tryz.prog _ _ _ _ _ _ _ _ _;have f:=r (by kernel_rfl);have z:T.getD 11 undef=_:=q 0 11;obtain ⟨j,s,S,x,a4,U,F⟩:=q 19 30;obtain ⟨a8,aj,ap,L,a3,aI⟩:=Gy w' B u3 G (af.o.later f) ⟨m.name,m.parent,zO j 0,m.cn,s,m.runs⟩ S 37 a4 U aY.o (fun _ b R e=>by injection e with e;injection e with e;subst e;exact aA.o j F.1) a5 (Nat.le_trans W f.size);have P:Below B wr aj:=(f.mono W).trans a3;refine ⟨a8,aj,Or.inl (Ze (.tmp 11) (.tmp 30) 37 rfl u3 (.slice (zO S 0) 1 1) z x ap),(fun h=>by cases h),⟨j,s,L,F.1,P,F.2.away (aI j F.2.lt (aA.o j F.1)),fun b O X=>(aI b (Nat.lt_of_lt_of_le O f.size) X).trans (f.block b O)⟩,P,?_⟩;intro i x A D u E
     match i with
     | 0=>exact E
     | 1=>exact E
     | 2=>exact E
     | 3=>exact E
     | 4=>exact E
     | 5=>exact E
     | 6=>exact E
     | 7=>exact E
     | 8=>exact E
     | 9=>exact E
     | 10=>exact E
     | 11=>exact E
     | 12=>exact E
     | 13=>exact E
     | 14=>exact E
     | 15=>exact E
     | 16=>exact E
     | 17=>exact absurd A (by decide)
     | 18=>exact absurd A (by decide)
     | 19=>exact absurd A (by decide)
     | 20=>exact absurd rfl x
     | 21=>exact absurd (D.symm.trans (by kernel_rfl:_=true)) (by decide)
     | n+22=>exact E
    refine zc.cons 22 rfl ?_ ?_
    ·intro T w' r C t q;show zu Tryz.prog _ _ _ _;obtain ⟨j,s,x,A,D⟩:=q 20 31;exact Or.inl ⟨T.getD 31 undef,w',by go_simp,⟨j,s,x,A,D⟩,Below.refl _ _⟩
    exact trivial
   intro T w' f aN t q _;obtain ⟨j,s,x,A,D,H,N⟩:=q 21 3;rw [yb (tt 3 [false,true,true,true,true,true,true,true,false,false,false,false,false,false,false,false,false,false,false,false,false,false,false,false,false,false,false,false,false] 1) (by kernel_rfl) aN @t];obtain ⟨us,aq⟩:∃ us:Nat->Value,(fun d=>T.getD d undef)=us:=⟨_,rfl⟩;rw [aq];have aF:us 3=T.getD 3 undef:=(by rw [<-aq]);rw [<-aF] at x;have aP:=zh x;have aQ:=zh A;have aR:=zh D;have aS:=zh H;have aT:=zh N;clear x A D H N t q aN aq aF f;simp only [xj,tt,List.replicate,List.cons_append,List.nil_append];go_wp2;go_roundg (n-(k+1))
   case measure=>omega
   refine ⟨k+1,_,by go_num,by omega,by omega,by rw [List.length_append,ae.o];rfl,aP.o,MH av.o (by have:=ay.o;omega) (by rw [aX.o];rfl),fun i Q=>?_,aw.o.trans aR.o⟩;by_cases e:i<G.length
   ·rw [Od e];intro ai b R aE;obtain ⟨a7,aO⟩:=az.o i (by have:=ae.o;omega) ai b R aE;exact ⟨a7,aO.away (aT.o b aO.lt (af.o.far i e ai b R aE))⟩
   obtain rfl:i=G.length:=(by have:=ae.o;omega);rw [Oe];intro _ b R e;injection e with e;injection e with e;subst e;have:=aQ.o;exact ⟨by omega,aS.o⟩
  obtain rfl:k=n:=by omega
  obtain ⟨a9,bj,bi,_⟩:=L.qs;clear Y ao L am F;go_wp2;go_ret;have aH:=ae.o;have L:=af.o;rcases L.row.2 with ⟨_,bb⟩ | ⟨g,ag,ba,aZ,_⟩
  ·omega
  subst aZ;rw [aH] at L ⊢;refine ⟨g,ag,G,rfl,L,aH.symm,?_,aw.o,az.o⟩;rw [av.o,ay.o,List.take_length]
end Go.Proofs.YtckpdfkobdgjeaaGreatDoor
