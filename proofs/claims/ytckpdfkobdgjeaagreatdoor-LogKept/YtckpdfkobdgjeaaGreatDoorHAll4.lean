/- Several texts in one: BookM, AnyD, BookB, AnyE. -/
import Derived.Deep.AppendLies
import Derived.Deep.DeepCutAuto
import Derived.Test.YtckpdfkobdgjeaaGreatDoorHAll3
import Derived.Test.YtckpdfkobdgjeaaGreatDoorHAny
namespace Go.Proofs.YtckpdfkobdgjeaaGreatDoor
open Go.RowKit
theorem Ip {g:zd} (hg:zW g) {a b n:Int} (h:(yV g a b n).2=0):zW (yV g a b n).1/\∀ c:Nat,c<48->zn (yV g a b n).1 c=wJ g a b n c:=by
 unfold yV at h ⊢;rw [if_pos (zX.2 hg)] at h ⊢;by_cases e:(Xw a b&&bdd n)=true
 ·rw [if_pos e] at h ⊢;unfold Yc at h ⊢;by_cases d:wB (wJ g a b n) 48=true
  ·rw [if_pos d];exact ⟨ZP _ 48 (by omega) (by omega) d,fun c f=>Yj _ d c f⟩
  rw [if_neg d] at h;cases h
 rw [if_neg e] at h;cases h
theorem Nn {f:zd} {X:Bk} (e:zW f) (d:meets X.rq X.bs=true):∀ {k:Nat} {g:zd},k<=X.bs.length->xz f X.rq X.bs k=some g->zW g/\∀ a:Nat,a<48->zn g a=zn f a-yo X a k/\(yo X a k=0\/0<=zn g a)
 | 0,g,_,h=>by
  simp [xz] at h;subst h;exact ⟨e,fun a _=>by simp [yo]⟩
 | k+1,g,hk,h=>by
  rw [xz] at h;cases hn:xz f X.rq X.bs k with
  | none=>rw [hn] at h;cases h
  | some g0 =>
   rw [hn] at h;simp only at h;obtain ⟨m,n⟩:=Nn e d (k:=k) (g:=g0) (by omega) hn
   split at h
   ·rename_i h1
    split at h
    ·rename_i h2;injection h with h;subst h;obtain ⟨j,o⟩:=Ip m h1;obtain ⟨w,x,p,q,r,y,z,A⟩:=YC d (show k<X.bs.length by omega);have l:=(Ry j p r q).2.1 h2.2;refine ⟨j,fun a i=>?_⟩;have c:=o a i;obtain ⟨s,t⟩:=n a i;have u:=(Y6 d a k (by omega)).1;rw [yo];unfold wJ at c;unfold VM;have v:RC X.rq X.bs k=IL X.rq X.bs k:=rfl;by_cases b:rN X.bs k<=a/\a<rN X.bs k+lenOf X.rq X.bs k
     ·rw [if_pos b] at c;rw [if_pos b];have:=l a b.1 b.2;omega
     rw [if_neg b] at c;rw [if_neg b];omega
    cases h
   cases h
theorem Rn {f:zd} {X:Bk} (e:zW f) (h:meets X.rq X.bs=true) (c:Xl f X.rq X.bs=true) {a:Nat} (i:a<48):yo X a X.bs.length=0\/yo X a X.bs.length<=zn f a:=by
 unfold Xl at c;obtain ⟨g,hg⟩:=Option.isSome_iff_exists.1 c;obtain ⟨_,d⟩:=Nn e h (Nat.le_refl _) hg;obtain ⟨j,b⟩:=d a i;rcases b with b | b
 ·exact Or.inl b
 exact Or.inr (by omega)
theorem L2 {l:QL} {b:BL} (h:Clean l b) {q:Int} (d:q<l.length) {p:Nat} (i:(p:Int)∈zK l q) {t:Nat} (f:t<48):zn (xH l b q) t<=zn (qu l p).runs t-xh l b p t b.length:=by
 have e:=(UU h (zK l q) _ Tf (UC (yY h.tree) d)).2 t f;show zn (Zu l (zM l b b.length) [(0,1048576)] (zK l q)) t<=_;rw [e];have key:∀ (a:List Int) (x:Int),VP l (zM l b b.length) t x a<=x/\∀ y∈a,VP l (zM l b b.length) t x a<=Rz l (zM l b b.length) y t:=by
  intro a
  induction a with
  | nil=>intro x;exact ⟨Int.le_refl _,fun y c=>by cases c⟩
  | cons z a ih =>
   intro x;rw [VP];obtain ⟨d,g⟩:=ih (min x (Rz l (zM l b b.length) z t));refine ⟨by omega,fun y c=>?_⟩;rcases List.mem_cons.1 c with e | c
   ·subst e;omega
   exact g y c
 have:=(key (zK l q) (zn [(0,1048576)] t)).2 p i;unfold Rz at this;rw [Int.toNat_natCast,((ZT h b.length (Nat.le_refl _) p).2 t f).1] at this;exact this
theorem Zb {b:BL} {x:Bk} {i:Nat} (h:i<b.length):bk (b++[x]) i=bk b i:=by unfold bk;simp [List.getD,List.getElem?_append_left h]
theorem ZE {b:BL} {x:Bk}:bk (b++[x]) b.length=x:=by unfold bk;simp [List.getD]
theorem Oo {c n:Int} {l:QL} {b:BL} {X:Bk} (h:Sound c n l b) (zh:X.id=n) (j:yI l X.rq=0) (y:c<=X.rq.fr) (x:b.length<12) (hn:n<1048576)
 (f:meets X.rq X.bs=true) (u:Xl (xH l b X.rq.queue) X.rq X.bs=true):Sound c (n+1) l (b++[X]):=by
 have o:ZZ l X=0:=by unfold ZZ;rw [if_pos j,if_pos f]
 have s:Clean l (b++[X]):=⟨h.clean.tree,by simp;omega,fun i d=>by
  by_cases e:i<b.length
  ·rw [Zb e];exact h.clean.each i e
  obtain rfl:i=b.length:=by simp at d;omega
  rw [ZE];exact o⟩
 obtain ⟨_,z,p⟩:=y8 h.clean.tree o;have r:=XZ h.clean p;have v:=h.n0;refine ⟨s,h.c0,h.c48,by omega,by omega,fun i d=>?_,fun i d=>?_,fun q j t w k=>?_⟩
 ·by_cases e:i<b.length
  ·rw [Zb e];have m:=h.rise i e;refine ⟨?_,by omega⟩;have a:=m.1;unfold xd at a ⊢;by_cases g:i=0
   ·rw [if_pos g] at a ⊢;exact a
   rw [if_neg g] at a ⊢;rw [Zb (by omega)];exact a
  obtain rfl:i=b.length:=by simp at d;omega
  rw [ZE,zh];refine ⟨?_,by omega⟩;unfold xd
  split
  ·exact v
  rename_i g;rw [Zb (by omega)];have:=(h.rise (b.length-1) (by omega)).2;omega
 ·by_cases e:i<b.length
  ·rw [Zb e];exact h.alive i e
  obtain rfl:i=b.length:=by simp at d;omega
  rw [ZE,(Pk f).2];have:=YY f;omega
 ·rw [XI,List.map_append,List.sum_append,<-XI];simp only [List.map_cons,List.map_nil,List.sum_cons,List.sum_nil];have m:=h.fits q j t w k;unfold Tl
  split
  ·rename_i hl;rcases Rn r f u k with a | a
   ·omega
   have:=L2 h.clean p hl k;omega
  omega
theorem wK {b:BL} {i:Nat} {x:Bk} (h:x∈b.take i++b.drop (i+1)):x∈b:=by
 rcases List.mem_append.1 h with h | h
 ·exact List.mem_of_mem_take h
 exact List.mem_of_mem_drop h
theorem VW {b:BL} {i j:Nat} (c:i<b.length):bk (b.take i++b.drop (i+1)) j=if j<i then bk b j else bk b (j+1):=by
 unfold bk;rw [List.getD_eq_getElem?_getD,List.getElem?_append];have a:(b.take i).length=i:=by simp;omega
 rw [a];by_cases e:j<i
 ·rw [if_pos e,if_pos e,List.getElem?_take,if_pos e,List.getD_eq_getElem?_getD]
 rw [if_neg e,if_neg e,List.getElem?_drop,List.getD_eq_getElem?_getD,show i+1+(j-i)=j+1 from by omega]
theorem QH {c n:Int} {l:QL} {b:BL} (h:Sound c n l b) {i:Nat} (f:i<b.length):Sound c n l (b.take i++b.drop (i+1)):=by
 have o:(b.take i++b.drop (i+1)).length=b.length-1:=by simp;omega
 have p:Clean l (b.take i++b.drop (i+1)):=Tc h.clean (by have:=h.clean.few;omega) (fun x v=>wK v);refine ⟨p,h.c0,h.c48,h.n0,h.n1,fun j g=>?_,fun j g=>?_,fun q r t s u=>?_⟩
 ·rw [o] at g;rw [VW f];unfold xd;rw [VW f];by_cases e:j<i
  ·rw [if_pos e];have a:=h.rise j (by omega);unfold xd at a;by_cases d:j=0
   ·rw [if_pos d] at a ⊢;exact a
   rw [if_neg d] at a ⊢;rw [if_pos (by omega)];exact a
  rw [if_neg e];have a:=h.rise (j+1) (by omega);have m:=PW h (show j+1<b.length by omega);refine ⟨?_,a.2⟩;by_cases d:j=0
  ·rw [if_pos d];exact m.1
  rw [if_neg d];by_cases k:j-1<i
  ·rw [if_pos k];have:=YG h (j:=j+1) (by omega) (i:=j-1) (by omega);omega
  rw [if_neg k,show j-1+1=j from by omega];have:=YG h (j:=j+1) (by omega) (i:=j) (by omega);omega
 ·rw [o] at g;rw [VW f]
  split
  ·exact h.alive j (by omega)
  exact h.alive (j+1) (by omega)
 have a:=h.fits q r t s u;rw [XI,JD l q t f] at a;have m:=(LW (l:=l) (Uu h.clean (yx f)).1 q t).1;rw [XI];omega
structure Made (Z W3:World) (L S B:Nat) (aa:Option Addr) (bn k3:Nat) (b':BL) (X:Bk) (g9 k9:Nat):Prop where
 own:OwnBks Z S (.slice (zO g9 0) (bn+1) k9) (b'++[X])
 len:bn=b'.length
 ne:g9≠B
 low:S<=g9
 blk:∀ k,k<W3.heap.size->some k≠(Value.slice aa bn k3).ownBlock->Z.heap[k]?=W3.heap[k]?
 size:W3.heap.size<=Z.heap.size
 offP:∀ i,i<(b'++[X]).length->0<(bk (b'++[X]) i).rq.pn->∀ g off,(bk (b'++[X]) i).rq.pa=zO g off->L<=g/\g≠B
 offB:∀ i,i<(b'++[X]).length->0<(bk (b'++[X]) i).bn->∀ g off,(bk (b'++[X]) i).ba=zO g off->L<=g/\g≠B
theorem Made.later {a d c:World} {L S B:Nat} {e:Option Addr} {bn i:Nat} {f:BL} {X:Bk} {g j:Nat} (h:Made a c L S B e bn i f X g j) (b:Below a.heap.size a d):Made d c L S B e bn i f X g j :=
 ⟨h.own.later b,h.len,h.ne,h.low,fun k l m=>(b.block k (by have:=h.size;omega)).trans (h.blk k l m),Nat.le_trans h.size b.size,h.offP,h.offB⟩
theorem Gn (w' q:World) (L S B:Nat) (s:Option Addr) (bn u:Nat) (d:BL) (X:Bk) (y:Nat) (R:TypeId) (Z:OwnBks q S (.slice s bn u) d) (w:Below q.heap.size q w')
 (Y:w'.heap[y]?=some (.cells #[zI X.id,zI X.rq.queue,zI X.rq.fr,zI X.rq.un,zI X.rq.kind,.slice X.rq.pa X.rq.pn X.rq.pc,.slice X.ba X.bn X.bc] 60 (0,0)))
 (aa:bn=d.length) (ag:bn<=12) (E:S<=q.heap.size) (ai:B<q.heap.size) (O:RunsIn w' X.rq.pa X.rq.pn X.rq.pc X.rq.ps)
 (M:∀ i,i<d.length->(0<(bk d i).rq.pn->∀ g c,(bk d i).rq.pa=zO g c->L<=g/\g≠B)/\(0<(bk d i).bn->∀ g c,(bk d i).ba=zO g c->L<=g/\g≠B)) (aj:L<=S)
 (N:0<X.rq.pn->∀ b c,X.rq.pa=zO b c->q.heap.size<=b) (P:∀ g,(Value.slice s bn u).ownBlock=some g->g≠B/\g<q.heap.size)
 (F:0<X.bn->∀ b c,X.ba=zO b c->(L<=b/\b≠B)/\b<q.heap.size/\(Value.slice s bn u).ownBlock≠some b) (J:RunsIn w' X.ba X.bn X.bc X.bs) :
 ∃ o D v,(Builtin.append_ #[38,38] R #[.slice s bn u,.slice (zO y 0) 1 1]).run Tryz.prog w'=.ok (.slice (zO o 0) (bn+1) D) v/\Made v q L S B s bn u d X o D/\Below S q v:=by
 subst aa;obtain ⟨af,p,e⟩:=Option.map_eq_some_iff.1 Z5;simp only [Prod.mk.injEq] at e;obtain ⟨V,m,t⟩:=e;have r:=Z.later w;obtain ⟨o,D,v,W,H,z,A,ah⟩:=run_append_lies w' 38 R S 60 af _ 7 88 Tryz.underlying38 p V m t (by rfl) (by omega) (.slice s d.length u) d.length (ze d) r.row (zA y 0) 1 1 (zx X) (by simp [zx])
  (fun j U G=>by rw [Addr.add_lit,Nat.zero_add,cell_of_row w' y j _ _ _ Y];simpa [zx] using G) (fun U G=>y7 [X] U (by simpa [ze] using G)) (by omega) (by simp only [maxLen];omega) (by omega) (Nat.le_trans E w.size) w'.heap.size rfl
 have ae:=H.lt o rfl;have x:(Value.slice s d.length u).ownBlock=some o\/w'.heap.size<=o:=by
  rcases A with A | A
  ·exact Or.inl A
  exact Or.inr (by omega)
 have C:∀ {a:Option Addr} {n cap:Nat} {l:zd},RunsIn w' a n cap l->(0<n->∀ b c,a=zO b c->(Value.slice s d.length u).ownBlock≠some b)->RunsIn v a n cap l:=fun h hn=>h.of_away fun f b c e=>z.block b (h.lt f e) (fun m=>hn f b c e m.symm);have Q:=w.size;have I:0<X.rq.pn->∀ b c,X.rq.pa=zO b c->(Value.slice s d.length u).ownBlock≠some b:=fun f b c e m=>by have:=N f b c e;have:=(P b m).2;omega
 refine ⟨o,D,v,W,⟨⟨?_,fun i p=>?_,fun i p=>?_,fun i p f g c e m=>?_,fun i p f g c e m=>?_⟩,rfl,?_,ae.1,fun k ab ad=>?_,Nat.le_trans Q z.size,fun i p=>?_,fun i p=>?_⟩,?_⟩
 ·rw [List.length_append,List.length_singleton,xw];have:ze [X]=zx X:=by simp [ze]
  rw [this];exact H
 ·by_cases e:i<d.length
  ·rw [Zb e];exact C (r.rqs i e) (r.farP i e)
  obtain rfl:i=d.length:=by simp at p;omega
  rw [ZE];exact C O I
 ·by_cases e:i<d.length
  ·rw [Zb e];exact C (r.bites i e) (r.farB i e)
  obtain rfl:i=d.length:=by simp at p;omega
  rw [ZE];exact C J (fun f b c e=>(F f b c e).2.2)
 ·have m:o=g:=by simpa [Value.ownBlock] using m
  subst m;by_cases t:i<d.length
  ·rw [Zb t] at f e;rcases x with h | h
   ·exact r.farP i t f o c e h
   have:=RunsIn.lt (r.rqs i t) f e;omega
  obtain rfl:i=d.length:=by simp at p;omega
  rw [ZE] at f e;rcases x with h | h
  ·exact I f o c e h
  have:=O.lt f e;omega
 ·have m:o=g:=by simpa [Value.ownBlock] using m
  subst m;by_cases t:i<d.length
  ·rw [Zb t] at f e;rcases x with h | h
   ·exact r.farB i t f o c e h
   have:=(r.bites i t).lt f e;omega
  obtain rfl:i=d.length:=by simp at p;omega
  rw [ZE] at f e;rcases x with h | h
  ·exact (F f o c e).2.2 h
  have:=J.lt f e;omega
 ·rcases x with h | h
  ·exact (P o h).1
  omega
 ·rw [z.block k (by omega) ad];exact w.block k ab
 ·by_cases e:i<d.length
  ·rw [Zb e];exact (M i e).1
  obtain rfl:i=d.length:=by simp at p;omega
  rw [ZE];intro f g c m;have:=N f g c m;omega
 ·by_cases e:i<d.length
  ·rw [Zb e];exact (M i e).2
  obtain rfl:i=d.length:=by simp at p;omega
  rw [ZE];exact fun f g c m=>(F f g c m).1
 ·exact (w.mono E).grown z (Nat.le_trans E Q) (fun k e=>(r.row.lt k e).1)
structure Made2 (Z W3:World) (L S B:Nat) (aa:Option Addr) (bn k3:Nat) (b':BL) (X:Bk) (g9 k9:Nat) (c n:Int) (tv:Value):Prop where
 own:OwnBks Z S (.slice (zO g9 0) (bn+1) k9) (b'++[X])
 len:bn=b'.length
 low:S<=g9
 box:zj Z B (zI c) (zI n) tv (.slice (zO g9 0) (bn+1) k9)
 blk:∀ k,k<W3.heap.size->k≠B->some k≠(Value.slice aa bn k3).ownBlock->Z.heap[k]?=W3.heap[k]?
 size:W3.heap.size<=Z.heap.size
 ne:g9≠B
 offP:∀ i,i<(b'++[X]).length->0<(bk (b'++[X]) i).rq.pn->∀ g off,(bk (b'++[X]) i).rq.pa=zO g off->L<=g/\g≠B
 offB:∀ i,i<(b'++[X]).length->0<(bk (b'++[X]) i).bn->∀ g off,(bk (b'++[X]) i).ba=zO g off->L<=g/\g≠B
theorem Made2.later {b e d:World} {L S B:Nat} {f:Option Addr} {bn j:Nat} {g:BL} {X:Bk} {i l:Nat} {c n:Int} {m:Value} (h:Made2 b d L S B f bn j g X i l c n m) (a:Below b.heap.size b e):Made2 e d L S B f bn j g X i l c n m :=
 ⟨h.own.later a,h.len,h.low,h.box.later a,fun k o p q=>(a.block k (by have:=h.size;omega)).trans (h.blk k o p q),Nat.le_trans h.size a.size,h.ne,h.offP,h.offB⟩
theorem Made.store {a b:World} {L S B:Nat} {d:Option Addr} {bn f:Nat} {t:BL} {X:Bk} {j l:Nat} (h:Made a b L S B d bn f t X j l) (w:Below S b a) {c n:Int} {s:Value} (v:zj b B (zI c) (zI n) s (.slice d bn f)/\some B≠(Value.slice d bn f).ownBlock) (u:S<=B/\B<b.heap.size) :
 Made2 (a.setCell (zA B 3) (.slice (zO j 0) (bn+1) l)) b L S B d bn f t X j l c n s/\a.cell? (zA B 3)=some (.slice d bn f)/\a.frozen? (zA B 3)=false/\Below S b (a.setCell (zA B 3) (.slice (zO j 0) (bn+1) l)):=by
 have q:zj a B (zI c) (zI n) s (.slice d bn f):=(h.blk B u.2 v.2).trans v.1;refine ⟨⟨?_,h.len,h.low,?_,fun k x y z=>?_,?_,h.ne,h.offP,h.offB⟩,q.cells.2.2.2,frozen_of_row a B 3 _ _ q,w.setCell (p:=(zA B 3)) u.1 _⟩
 ·refine h.own.blocks (fun g e=>heap_setCell_other a (zA B 3) g _ ?_) (fun i m o g r e=>heap_setCell_other a (zA B 3) g _ (h.offP i m o g r e).2) (fun i m o g r e=>heap_setCell_other a (zA B 3) g _ (h.offB i m o g r e).2);have e:j=g:=by simpa [Value.ownBlock] using e
  subst e;exact h.ne
 ·unfold zj;rw [heap_setCell_same a B 3 _ _ _ q];rfl
 ·rw [heap_setCell_other a (zA B 3) k _ y];exact h.blk k x z
 ·have:=h.size;simp only [World.setCell,Array.size_modify];omega
end Go.Proofs.YtckpdfkobdgjeaaGreatDoor
