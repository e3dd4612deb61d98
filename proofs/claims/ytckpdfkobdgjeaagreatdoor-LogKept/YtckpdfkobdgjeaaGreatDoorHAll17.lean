/- Several texts in one: LogF, LogG, LogH. -/
import Derived.Lib.AppendZeros
import Derived.Defers
import Derived.Recover
import Derived.Test.YtckpdfkobdgjeaaGreatDoorHAll16
namespace Go.Proofs.YtckpdfkobdgjeaaGreatDoor
set_option maxRecDepth 100000
set_option maxHeartbeats 4000000
open Go.RowKit
def Ye (t:ByteArray) (k n:Nat):zd:=(List.range n).map fun j=>(byt t (k+2*j),byt t (k+2*j+1))
theorem yD (t:ByteArray) (k n:Nat):(Ye t k n).length=n:=by simp [Ye]
theorem UN (t:ByteArray) (k n:Nat):Ye t k (n+1)=Ye t k n++[(byt t (k+2*n),byt t (k+2*n+1))]:=by simp [Ye,List.range_succ]
theorem Us (l:zd) (a b:Int):cellsOf (l++[(a,b)])=cellsOf l++[zI a,zI b]:=by
 induction l with
 | nil=>rfl
 | cons p l ih =>
  obtain ⟨x,y⟩:=p;show _::_::cellsOf (l++[(a,b)])=_;rw [ih];rfl
theorem But.later {ks:List Nat} {w a b:World} (h:But ks w a) (c:Below a.heap.size a b):But ks w b:=h.trans (But.below c)
theorem VG {w w':World} {a B b:Nat} {v:Value} {n z:Nat} {c:List Value} (h:w.ownsRow B b z v n c) (j:But [a] w w') (i:v.ownBlock≠some a):w'.ownsRow B b z v n c:=by
 refine ⟨h.1,?_⟩;rcases h.2 with k | ⟨g,cap,d,rfl,f,hg,rest⟩
 ·exact .inl k
 exact .inr ⟨g,cap,d,rfl,f,(j.block g (Array.getElem?_eq_some_iff.1 hg).1 (fun e=>i (by rw [List.mem_singleton.1 e];rfl))).trans hg,rest⟩
theorem QA (w:World) (a b:Int) :
 zC 117 #[zI a,zI b] w fun e w'=>e=.returned (.agg #[zI a,zI b])/\Below w.heap.size w w':=by
 obtain ⟨S,f⟩:=qA (w.heap.size);have c:=zh f;go_enter Tryz.func117,Tryz.ntmps117;go_wp2_with fail
 have d:(w.alloc (.cells #[zI a,zI b] 64)).heap[S]?=some (.cells #[zI a,zI b] 64 (0,0)):=by rw [<-c.o];exact heap_alloc_new w _
 refine bodyPost_ret (v:=.agg #[zI a,zI b]) (results_cell_row Tryz.results117 _ _ S 64 #[zI a,zI b] (0,0) _ rfl d Tryz.underlying64 rfl (by kernel_rfl)) rfl ⟨rfl,?_⟩;exact zr _ _
theorem UP (w:World) (B:Nat) (v:Value) (l:zd) (h:w.ownsRow B 64 2 v l.length (cellsOf l)) (a b:Int) (c:Nat) (t:w.heap[c]?=some (.cells #[zI a,zI b] 64 (0,0))) (C:l.length<=1000) (s:B<=w.heap.size) :
 ∃ g k w',(∀ f,(Builtin.append_ #[22,22] f #[v,.slice (zO c 0) 1 1]).run Tryz.prog w=.ok (.slice (zO g 0) (l.length+1) k) w')/\w'.ownsRow B 64 2 (.slice (zO g 0) (l.length+1) k) (l.length+1) (cellsOf (l++[(a,b)]))/\w.grownBy w' v.ownBlock:=by
 obtain ⟨x,u,e⟩:=Option.map_eq_some_iff.1 (show (Tryz.prog.info? 64).map (fun i=>(i.zero,i.size,i.bytes))=some (some (.agg #[zI 0,zI 0]),2,16) from by kernel_rfl);simp only [Prod.mk.injEq] at e;obtain ⟨m,n,o⟩:=e;obtain ⟨g,k,w',p,q,r,z,A⟩:=run_append_lies w 22 0 B 64 x _ 2 16 Tryz.underlying22 u m n o (by rfl) (by omega) v l.length _ h (zA c 0) 1 1 [zI a,zI b] (by simp)
  (fun j y d=>by rw [Addr.add_lit,Nat.zero_add,cell_of_row w c j _ _ _ t];simpa using d) (fun y d=>by
   simp only [List.mem_cons,List.not_mem_nil,or_false] at d;rcases d with rfl | rfl <;> rfl) (by omega) (by simp only [maxLen];omega) (by omega) s w.heap.size rfl
 exact ⟨g,k,w',fun f=>p,by rw [Us];exact q,r⟩
theorem QB (w:World) (d:Nat) (t:ByteArray) (k n:Nat) (h:Rd w d t k) (ag:t.size<=4096) (v:Value) (ai:Zx w v) (Z:0<d) (hn:n<=255) (aO:k<=t.size) :
 zC 116 #[zI n,.func (.func 74) #[.pointer (zO d 0)] #[],.func (.func 117) #[] #[]] w fun e w' =>
  (k+2*n<=t.size/\∃ a c,e=.returned (.slice a n c)/\RunsIn w' a n c (Ye t k n)/\(∀ b S,a=zO b S->w.heap.size<=b)/\Rd w' d t (k+2*n)/\But [d] w w') \/
  (t.size<k+2*n/\e=.panicked [{ v:=v,recovered:=false }]/\But [d] w w'):=by
 have aM:d<w.heap.size:=(Array.getElem?_eq_some_iff.1 h).1;have al:=zh h;have V:=zh ai;clear h ai;go_enter Tryz.func116,Tryz.ntmps116;go_wp2_with fail
 go_loopg [7,11] n (fun az (M p:Value) wr=>∃ i:Nat,p=zI i/\i<=n/\az=n-i/\k+2*i<=t.size/\wr.ownsRow w.heap.size 64 2 M (Ye t k i).length (cellsOf (Ye t k i))/\Rd wr d t (k+2*i)/\But [d] w wr)
 case atStart=>exact ⟨0,rfl,by omega,by omega,by omega,World.ownsRow_nil _ _ _ _,al.o,But.refl _ _⟩
 case round =>
  obtain ⟨i,rfl,aN,rfl,aF,C,L,u⟩:=hrel;have B:∀ {M:Value} {xs:List Value} {m:Nat} {wx:World},wx.ownsRow w.heap.size 64 2 M m xs->M.ownBlock≠some d:=fun D e=>by have:=(D.lt d e).1;omega
  by_cases aP:i<n
  ·have aQ:(i:Int)<n:=(by omega);have av:=zh (xO wr d t (k+2*i) L ag v (V.o.but Z u));have I:=zh C;have F:=zh u;have ah:=B C;have N:=zh ah;clear C L u ah;go_wp2_with fail
   refine av.o.mono ?_;rintro e aK (⟨aA,rfl,ab,l⟩ | ⟨aA,rfl,l⟩)
   ·have O:=F.o.trans l;have aw:=zh (xO aK d t (k+2*i+1) ab ag v (V.o.but Z O));have ap:=zh (VG I.o l N.o);have G:=zh O;obtain ⟨x,D⟩:=qA (byt t (k+2*i));rw [D];have ar:=zh D;clear ab l O D;go_wp2_with fail
    refine aw.o.mono ?_;rintro e aj (⟨aB,rfl,ad,r⟩ | ⟨aB,rfl,r⟩)
    ·have H:=zh (G.o.trans r);have aq:=zh (VG ap.o r N.o);have U:=zh ad;obtain ⟨y,R⟩:=qA (byt t (k+2*i+1));rw [R];have au:=zh R;have ax:=zh (QA aj x y);clear ad r R;go_wp2_with fail
     refine ax.o.mono ?_;rintro e E ⟨rfl,z⟩;have af:=zT aq.o z;obtain ⟨s,J⟩:=qB (E.alloc (.cells #[zI x,zI y] 64));have A:zL E s:=(by rw [J];exact zr _ _);have Y:s.heap[E.heap.size]?=some (.cells #[zI x,zI y] 64 (0,0)):=(by rw [J];exact heap_alloc_new E _);have aH:=H.o.size;have aI:=z.size;have aJ:=A.size;obtain ⟨g,aL,W,Q,P,f⟩:=UP s w.heap.size _ _ (zT af A) x y E.heap.size Y (by rw [yD];omega) (by omega);rw [yD] at Q P;rw [J] at Q;have aC:d<aj.heap.size:=(Array.getElem?_eq_some_iff.1 U.o).1;have ae:Rd W d t (k+2*i+1+1):=(f.block d (by omega) (fun e=>N.o e.symm)).trans ((U.o.later z).later A);have X:But [d] w W:=by
      have q:=(H.o.later z).later A;refine ⟨f.os.trans q.os,f.tape.trans q.tape,f.output.trans q.output,Nat.le_trans q.size f.size,fun j aD aE=>?_⟩;rw [f.block j (by omega) (fun e=>by have:=(I.o.lt j e.symm).1;omega)];exact q.block j aD aE
     have am:=zh P;have ao:=zh ae;have ak:=zh X;clear af z J A Y P f ae X aH aI aJ aC B;go_wp2_with (at_builtin;refine Lib.wpList_append_run _ rfl _ _ _ _ rfl _ _ rfl rfl _ _ (Q _) ?_)
     go_roundg (n-(i+1))
     case measure=>omega
     refine ⟨i+1,by go_num,by omega,by omega,by omega,?_,?_,ak.o⟩
     ·rw [yD,UN,ar.o,au.o];exact am.o
     rw [show k+2*(i+1)=k+2*i+1+1 by omega];exact ao.o
    have H:=zh (G.o.trans r);clear r B;go_wp2;exact ⟨rfl,Or.inr ⟨by omega,rfl,H.o⟩⟩
   have G:=zh (F.o.trans l);clear l B;go_wp2;exact ⟨rfl,Or.inr ⟨by omega,rfl,G.o⟩⟩
  obtain rfl:i=n:=by omega
  have I:=zh C;have an:=zh L;have F:=zh u;clear C L u B;go_wp2;go_ret;obtain ⟨a,c,e,aa,aG⟩:=Yq I.o (by rw [yD];omega);rw [yD] at e aa;refine Or.inl ⟨aF,a,c,?_,aa,fun b S ay=>(aG b S ay).1,an.o,F.o⟩;show Ending.returned u7=_;rw [e]
theorem Nr (w:World) (a b:Int) :
 zC 119 #[zI a,zI b] w fun e w'=>e=.returned (.agg #[zI a,zI b])/\Below w.heap.size w w':=by
 obtain ⟨S,f⟩:=qA (w.heap.size);have c:=zh f;go_enter Tryz.func119,Tryz.ntmps119;go_wp2_with fail
 have d:(w.alloc (.cells #[zI a,zI b] 55)).heap[S]?=some (.cells #[zI a,zI b] 55 (0,0)):=by rw [<-c.o];exact heap_alloc_new w _
 refine bodyPost_ret (v:=.agg #[zI a,zI b]) (results_cell_row Tryz.results119 _ _ S 55 #[zI a,zI b] (0,0) _ rfl d Tryz.underlying55 rfl (by kernel_rfl)) rfl ⟨rfl,?_⟩;exact zr _ _
theorem RU (w:World) (B:Nat) (v:Value) (l:zd) (h:w.ownsRow B 55 2 v l.length (cellsOf l)) (a b:Int) (c:Nat) (t:w.heap[c]?=some (.cells #[zI a,zI b] 55 (0,0))) (C:l.length<=1000) (s:B<=w.heap.size) :
 ∃ g k w',(∀ f,(Builtin.append_ #[25,25] f #[v,.slice (zO c 0) 1 1]).run Tryz.prog w=.ok (.slice (zO g 0) (l.length+1) k) w')/\w'.ownsRow B 55 2 (.slice (zO g 0) (l.length+1) k) (l.length+1) (cellsOf (l++[(a,b)]))/\w.grownBy w' v.ownBlock:=by
 obtain ⟨x,u,e⟩:=Option.map_eq_some_iff.1 (show (Tryz.prog.info? 55).map (fun i=>(i.zero,i.size,i.bytes))=some (some (.agg #[zI 0,zI 0]),2,16) from by kernel_rfl);simp only [Prod.mk.injEq] at e;obtain ⟨m,n,o⟩:=e;obtain ⟨g,k,w',p,q,r,z,A⟩:=run_append_lies w 25 0 B 55 x _ 2 16 Tryz.underlying25 u m n o (by rfl) (by omega) v l.length _ h (zA c 0) 1 1 [zI a,zI b] (by simp)
  (fun j y d=>by rw [Addr.add_lit,Nat.zero_add,cell_of_row w c j _ _ _ t];simpa using d) (fun y d=>by
   simp only [List.mem_cons,List.not_mem_nil,or_false] at d;rcases d with rfl | rfl <;> rfl) (by omega) (by simp only [maxLen];omega) (by omega) s w.heap.size rfl
 exact ⟨g,k,w',fun f=>p,by rw [Us];exact q,r⟩
theorem Nx (w:World) (d:Nat) (t:ByteArray) (k n:Nat) (h:Rd w d t k) (ag:t.size<=4096) (v:Value) (ai:Zx w v) (Z:0<d) (hn:n<=255) (aO:k<=t.size) :
 zC 118 #[zI n,.func (.func 74) #[.pointer (zO d 0)] #[],.func (.func 119) #[] #[]] w fun e w' =>
  (k+2*n<=t.size/\∃ a c,e=.returned (.slice a n c)/\RunsIn w' a n c (Ye t k n)/\(∀ b S,a=zO b S->w.heap.size<=b)/\Rd w' d t (k+2*n)/\But [d] w w') \/
  (t.size<k+2*n/\e=.panicked [{ v:=v,recovered:=false }]/\But [d] w w'):=by
 have aM:d<w.heap.size:=(Array.getElem?_eq_some_iff.1 h).1;have al:=zh h;have V:=zh ai;clear h ai;go_enter Tryz.func118,Tryz.ntmps118;go_wp2_with fail
 go_loopg [7,11] n (fun az (M p:Value) wr=>∃ i:Nat,p=zI i/\i<=n/\az=n-i/\k+2*i<=t.size/\wr.ownsRow w.heap.size 55 2 M (Ye t k i).length (cellsOf (Ye t k i))/\Rd wr d t (k+2*i)/\But [d] w wr)
 case atStart=>exact ⟨0,rfl,by omega,by omega,by omega,World.ownsRow_nil _ _ _ _,al.o,But.refl _ _⟩
 case round =>
  obtain ⟨i,rfl,aN,rfl,aF,C,L,u⟩:=hrel;have B:∀ {M:Value} {xs:List Value} {m:Nat} {wx:World},wx.ownsRow w.heap.size 55 2 M m xs->M.ownBlock≠some d:=fun D e=>by have:=(D.lt d e).1;omega
  by_cases aP:i<n
  ·have aQ:(i:Int)<n:=(by omega);have av:=zh (xO wr d t (k+2*i) L ag v (V.o.but Z u));have I:=zh C;have F:=zh u;have ah:=B C;have N:=zh ah;clear C L u ah;go_wp2_with fail
   refine av.o.mono ?_;rintro e aK (⟨aA,rfl,ab,l⟩ | ⟨aA,rfl,l⟩)
   ·have O:=F.o.trans l;have aw:=zh (xO aK d t (k+2*i+1) ab ag v (V.o.but Z O));have ap:=zh (VG I.o l N.o);have G:=zh O;obtain ⟨x,D⟩:=qA (byt t (k+2*i));rw [D];have ar:=zh D;clear ab l O D;go_wp2_with fail
    refine aw.o.mono ?_;rintro e aj (⟨aB,rfl,ad,r⟩ | ⟨aB,rfl,r⟩)
    ·have H:=zh (G.o.trans r);have aq:=zh (VG ap.o r N.o);have U:=zh ad;obtain ⟨y,R⟩:=qA (byt t (k+2*i+1));rw [R];have au:=zh R;have ax:=zh (Nr aj x y);clear ad r R;go_wp2_with fail
     refine ax.o.mono ?_;rintro e E ⟨rfl,z⟩;have af:=zT aq.o z;obtain ⟨s,J⟩:=qB (E.alloc (.cells #[zI x,zI y] 55));have A:zL E s:=(by rw [J];exact zr _ _);have Y:s.heap[E.heap.size]?=some (.cells #[zI x,zI y] 55 (0,0)):=(by rw [J];exact heap_alloc_new E _);have aH:=H.o.size;have aI:=z.size;have aJ:=A.size;obtain ⟨g,aL,W,Q,P,f⟩:=RU s w.heap.size _ _ (zT af A) x y E.heap.size Y (by rw [yD];omega) (by omega);rw [yD] at Q P;rw [J] at Q;have aC:d<aj.heap.size:=(Array.getElem?_eq_some_iff.1 U.o).1;have ae:Rd W d t (k+2*i+1+1):=(f.block d (by omega) (fun e=>N.o e.symm)).trans ((U.o.later z).later A);have X:But [d] w W:=by
      have q:=(H.o.later z).later A;refine ⟨f.os.trans q.os,f.tape.trans q.tape,f.output.trans q.output,Nat.le_trans q.size f.size,fun j aD aE=>?_⟩;rw [f.block j (by omega) (fun e=>by have:=(I.o.lt j e.symm).1;omega)];exact q.block j aD aE
     have am:=zh P;have ao:=zh ae;have ak:=zh X;clear af z J A Y P f ae X aH aI aJ aC B;go_wp2_with (at_builtin;refine Lib.wpList_append_run _ rfl _ _ _ _ rfl _ _ rfl rfl _ _ (Q _) ?_)
     go_roundg (n-(i+1))
     case measure=>omega
     refine ⟨i+1,by go_num,by omega,by omega,by omega,?_,?_,ak.o⟩
     ·rw [yD,UN,ar.o,au.o];exact am.o
     rw [show k+2*(i+1)=k+2*i+1+1 by omega];exact ao.o
    have H:=zh (G.o.trans r);clear r B;go_wp2;exact ⟨rfl,Or.inr ⟨by omega,rfl,H.o⟩⟩
   have G:=zh (F.o.trans l);clear l B;go_wp2;exact ⟨rfl,Or.inr ⟨by omega,rfl,G.o⟩⟩
  obtain rfl:i=n:=by omega
  have I:=zh C;have an:=zh L;have F:=zh u;clear C L u B;go_wp2;go_ret;obtain ⟨a,c,e,aa,aG⟩:=Yq I.o (by rw [yD];omega);rw [yD] at e aa;refine Or.inl ⟨aF,a,c,?_,aa,fun b S ay=>(aG b S ay).1,an.o,F.o⟩;show Ending.returned u7=_;rw [e]
theorem Sg (w:World) (d:Nat) (t:ByteArray) (k n:Nat) (h:Rd w d t k) (q:t.size<=4096) (v:Value) (j:Zx w v) (m:0<d) (hn:n<=255) (p:k<=t.size) :
 zC 75 #[zI n,.func (.func 74) #[.pointer (zO d 0)] #[]] w fun e w' =>
  (k+2*n<=t.size/\∃ a c,e=.returned (.slice a n c)/\RunsIn w' a n c (Ye t k n)/\(∀ b r,a=zO b r->w.heap.size<=b)/\Rd w' d t (k+2*n)/\But [d] w w') \/
  (t.size<k+2*n/\e=.panicked [{ v:=v,recovered:=false }]/\But [d] w w'):=by
 have l:=zh (QB w d t k n h q v j m hn p);clear h j;go_enter Tryz.func75,Tryz.ntmps75;go_wp2_with fail
 refine l.o.mono ?_;rintro e s (⟨i,a,c,rfl,f⟩ | ⟨i,rfl,f⟩)
 ·have g:=zh f;clear f;go_wp2;go_ret;exact Or.inl ⟨i,a,c,rfl,g.o⟩
 ·have g:=zh f;clear f;go_wp2;exact ⟨rfl,Or.inr ⟨i,rfl,g.o⟩⟩
theorem Qp (w:World) (d:Nat) (t:ByteArray) (k n:Nat) (h:Rd w d t k) (q:t.size<=4096) (v:Value) (j:Zx w v) (m:0<d) (hn:n<=255) (p:k<=t.size) :
 zC 77 #[zI n,.func (.func 74) #[.pointer (zO d 0)] #[]] w fun e w' =>
  (k+2*n<=t.size/\∃ a c,e=.returned (.slice a n c)/\RunsIn w' a n c (Ye t k n)/\(∀ b r,a=zO b r->w.heap.size<=b)/\Rd w' d t (k+2*n)/\But [d] w w') \/
  (t.size<k+2*n/\e=.panicked [{ v:=v,recovered:=false }]/\But [d] w w'):=by
 have l:=zh (Nx w d t k n h q v j m hn p);clear h j;go_enter Tryz.func77,Tryz.ntmps77;go_wp2_with fail
 refine l.o.mono ?_;rintro e s (⟨i,a,c,rfl,f⟩ | ⟨i,rfl,f⟩)
 ·have g:=zh f;clear f;go_wp2;go_ret;exact Or.inl ⟨i,a,c,rfl,g.o⟩
 ·have g:=zh f;clear f;go_wp2;exact ⟨rfl,Or.inr ⟨i,rfl,g.o⟩⟩
theorem MI (p q:Addr) (w:World) :
 CallsD Tryz.prog 73 #[.pointer (some p),.pointer (some q)] .returning w fun e f w'=>e=.returned (.tuple #[])/\f=.returning/\w'=w:=by
 have c:∀ a:World,(binOp .neq 20 .nilIface .nilIface).run Tryz.prog a=.ok (.bool false) a:=fun a=>by kernel_rfl
 refine callsD_of_wpS Tryz.func73 rfl fun b cs d=>?_;apply wpS_seq;apply wpS_region;simp [wpOpsS,go_sem,recoverD,d,Tryz.ntmps73,Exit.thenS,c];refine wpS_cond (t:=false) (by simp [Act.eval,Array.replicate]) ?_;simp only [Bool.false_eq_true,if_false];refine wpS_of_wp (wp_skip ?_);cases b
 simp_all [bodyPostS,results,Tryz.results73]
def wj (w:World) (A:Nat) (c0 c1 c2 c3 c4 c5 c6 c7:Value):Prop:=w.heap[A]?=some (.cells #[c0,c1,c2,c3,c4,c5,c6,c7] 27 (0,0))
theorem x8 (w:World) (i:Nat) (C s q p o n m l a b c d e f g h:Value) (r:wj w i C s q p o n m l) :
 wj ((((((((w.setCell (zA i 0) a).setCell (zA i 1) b).setCell (zA i 2) c).setCell (zA i 3) d).setCell (zA i 4) e).setCell (zA i 5) f).setCell (zA i 6) g).setCell (zA i 7) h) i a b c d e f g h /\
 ∀ k,k≠i->((((((((w.setCell (zA i 0) a).setCell (zA i 1) b).setCell (zA i 2) c).setCell (zA i 3) d).setCell (zA i 4) e).setCell (zA i 5) f).setCell (zA i 6) g).setCell (zA i 7) h).heap[k]?=w.heap[k]?:=by
 unfold wj at r ⊢;have t:(w.setCell (zA i 0) a).heap[i]?=some (.cells #[a,s,q,p,o,n,m,l] 27 (0,0)):=heap_setCell_same _ i 0 _ _ a r;have u:((w.setCell (zA i 0) a).setCell (zA i 1) b).heap[i]?=some (.cells #[a,b,q,p,o,n,m,l] 27 (0,0)):=heap_setCell_same _ i 1 _ _ b t;have v:(((w.setCell (zA i 0) a).setCell (zA i 1) b).setCell (zA i 2) c).heap[i]?=some (.cells #[a,b,c,p,o,n,m,l] 27 (0,0)):=heap_setCell_same _ i 2 _ _ c u;have x:((((w.setCell (zA i 0) a).setCell (zA i 1) b).setCell (zA i 2) c).setCell (zA i 3) d).heap[i]?=some (.cells #[a,b,c,d,o,n,m,l] 27 (0,0)):=heap_setCell_same _ i 3 _ _ d v;have y:(((((w.setCell (zA i 0) a).setCell (zA i 1) b).setCell (zA i 2) c).setCell (zA i 3) d).setCell (zA i 4) e).heap[i]?=some (.cells #[a,b,c,d,e,n,m,l] 27 (0,0)):=heap_setCell_same _ i 4 _ _ e x;have z:((((((w.setCell (zA i 0) a).setCell (zA i 1) b).setCell (zA i 2) c).setCell (zA i 3) d).setCell (zA i 4) e).setCell (zA i 5) f).heap[i]?=some (.cells #[a,b,c,d,e,f,m,l] 27 (0,0)):=heap_setCell_same _ i 5 _ _ f y;have A:(((((((w.setCell (zA i 0) a).setCell (zA i 1) b).setCell (zA i 2) c).setCell (zA i 3) d).setCell (zA i 4) e).setCell (zA i 5) f).setCell (zA i 6) g).heap[i]?=some (.cells #[a,b,c,d,e,f,g,l] 27 (0,0)):=heap_setCell_same _ i 6 _ _ g z;have B:((((((((w.setCell (zA i 0) a).setCell (zA i 1) b).setCell (zA i 2) c).setCell (zA i 3) d).setCell (zA i 4) e).setCell (zA i 5) f).setCell (zA i 6) g).setCell (zA i 7) h).heap[i]?=some (.cells #[a,b,c,d,e,f,g,h] 27 (0,0)):=heap_setCell_same _ i 7 _ _ h A;refine ⟨B,fun k j=>?_⟩;rw [heap_setCell_other _ (zA i 7) k _ j,heap_setCell_other _ (zA i 6) k _ j,heap_setCell_other _ (zA i 5) k _ j,heap_setCell_other _ (zA i 4) k _ j,heap_setCell_other _ (zA i 3) k _ j,heap_setCell_other _ (zA i 2) k _ j,heap_setCell_other _ (zA i 1) k _ j,heap_setCell_other _ (zA i 0) k _ j]
theorem wj.cells {w:World} {a:Nat} {b c1 c2 c3 c4 c5 c d:Value} (h:wj w a b c1 c2 c3 c4 c5 c d):w.cell? (zA a 0)=some b/\w.cell? (zA a 1)=some c1/\w.cell? (zA a 2)=some c2/\w.cell? (zA a 3)=some c3/\w.cell? (zA a 4)=some c4/\w.cell? (zA a 5)=some c5/\w.cell? (zA a 6)=some c/\w.cell? (zA a 7)=some d:=by
 unfold wj at h;refine ⟨?_,?_,?_,?_,?_,?_,?_,?_⟩ <;> (rw [cell_of_row w a _ _ _ _ h];rfl)
theorem Sj (a:Nat) (T:TypeId) (g:Value) (o:List PanicEntry) (w:World) (h c1 c2 c3 c4 c5 i j:Value) (x:Bool) (d:wj w a h c1 c2 c3 c4 c5 i j) (f:w.heap[a+1]?=some (.cells #[.bool x] 4 (0,0))) :
 CallsD Tryz.prog 73 #[.pointer (zO a 0),.pointer (zO (a+1) 0)] (.panicking ({ v:=.iface T g,recovered:=false }::o)) w fun e J w'=>e=.returned (.tuple #[])/\J=.panicking ({ v:=.iface T g,recovered:=true }::o)/\wj w' a (zI 0) (zI 0) (zI 0) (zI 0) (zI 0) (zI 0) zN zN/\w'.heap[a+1]?=some (.cells #[.bool false] 4 (0,0))/\But [a,a+1] w w':=by
 have H:∀ (c:World),(binOp .neq 20 (.iface T g) .nilIface).run Tryz.prog c=.ok (.bool true) c:=fun c=>by kernel_rfl
 obtain ⟨q,r,s,u,y,z,A,B⟩:=d.cells;have C:∀ m,w.frozen? (zA a m)=false:=fun m=>frozen_of_row w a m _ _ d;have D:w.cell? (zA (a+1) 0)=some (.bool x):=by rw [cell_of_row w (a+1) 0 _ _ _ f];rfl
 have E:w.frozen? (zA (a+1) 0)=false:=frozen_of_row w (a+1) 0 _ _ f;obtain ⟨l,n⟩:=x8 w a h c1 c2 c3 c4 c5 i j (zI 0) (zI 0) (zI 0) (zI 0) (zI 0) (zI 0) zN zN d;refine callsD_of_wpS Tryz.func73 rfl fun L cs I=>?_;apply wpS_seq;apply wpS_region;simp [wpOpsS,go_sem,recoverD,I,Tryz.ntmps73,Exit.thenS,H];refine wpS_cond (t:=true) (by simp [Act.eval,Array.replicate]) ?_;simp only [if_true];apply wpS_region;simp [wpOpsS,go_sem,q,r,s,u,y,z,A,B,C,D,E,bodyPostS,results,Tryz.results73];obtain ⟨b,k⟩:=qB (((((((((w.setCell ⟨a,0,none⟩ (zI 0)).setCell ⟨a,1,none⟩ (zI 0)).setCell ⟨a,2,none⟩ (zI 0)).setCell ⟨a,3,none⟩ (zI 0)).setCell ⟨a,4,none⟩ (zI 0)).setCell ⟨a,5,none⟩ (zI 0)).setCell ⟨a,6,none⟩ zN).setCell ⟨a,7,none⟩ zN));have G:But [a,a+1] w b:=by
  rw [k];have m:a∈[a,a+1]:=by simp
  exact (((((((But.set (p:=(zA a 0)) m _).trans (But.set (p:=(zA a 1)) m _)).trans (But.set (p:=(zA a 2)) m _)).trans (But.set (p:=(zA a 3)) m _)).trans (But.set (p:=(zA a 4)) m _)).trans (But.set (p:=(zA a 5)) m _)).trans (But.set (p:=(zA a 6)) m _)).trans (But.set (p:=(zA a 7)) m _)
 rw [<-k] at l n ⊢;have F:b.heap[a+1]?=some (.cells #[.bool x] 4 (0,0)):=(n (a+1) (by omega)).trans f;exact ⟨(heap_setCell_other b (zA (a+1) 0) a _ (by simp)).trans l,heap_setCell_same b (a+1) 0 _ _ (.bool false) F,G.trans (But.set (p:=(zA (a+1) 0)) (by simp) _)⟩
def pN (t:ByteArray) (k:Nat):Nat:=(byt t (k+6)).toNat
def pA (t:ByteArray) (k:Nat):Nat:=k+7+2*pN t k
def cN (t:ByteArray) (k:Nat):Nat:=(byt t (pA t k)).toNat
def xx (t:ByteArray) (k:Nat):Nat:=pA t k+1+2*cN t k
def whole (t:ByteArray) (k:Nat):Prop:=k+6<t.size/\byt t (k+6)<=3/\pA t k<t.size/\byt t (pA t k)<=48/\xx t k<=t.size
instance (t:ByteArray) (k:Nat):Decidable (whole t k):=by unfold whole;infer_instance
theorem But.newSet {ks:List Nat} {w w':World} (h:But ks w w') {p:Addr} (b:w.heap.size<=p.block) (v:Value):But ks w (w'.setCell p v) :=
 ⟨h.os,h.tape,h.output,by have:=h.size;simp only [World.setCell,Array.size_modify];omega,fun k a hn=>by rw [heap_setCell_other w' p k _ (by omega)];exact h.block k a hn⟩
theorem But.grow {ks:List Nat} {w w' c:World} (h:But ks w w') {b:List Nat} (d:∀ j∈b,w.heap.size<=j) (a:But b w' c):But ks w c :=
 ⟨a.os.trans h.os,a.tape.trans h.tape,a.output.trans h.output,Nat.le_trans h.size a.size,fun k f hn=>by
  have:=h.size;rw [a.block k (by omega) (fun e=>by have:=d k e;omega)];exact h.block k f hn⟩
theorem T5 {tmps:Array Value} (w:World) (a:Nat) (b c1 c2 c3 c4 c5 c d:Value) (x:Bool) (h:tmps.getD 2 undef=.pointer (zO a 0)) (i:tmps.getD 3 undef=.pointer (zO (a+1) 0)) (j:wj w a b c1 c2 c3 c4 c5 c d) (k:w.heap[a+1]?=some (.cells #[.bool x] 4 (0,0))) :
 (results Tryz.f34 tmps).run Tryz.prog w=.ok (.tuple #[.agg #[b,c1,c2,c3,c4,c5,c,d],.bool x]) w:=by
 have f:tmps[2]?.getD undef=.pointer (zO a 0):=by simpa using h
 have g:tmps[3]?.getD undef=.pointer (zO (a+1) 0):=by simpa using i
 have l:=run_loadVar_row (P:=Tryz.prog) w a 27 27 #[b,c1,c2,c3,c4,c5,c,d] (0,0) _ j Tryz.underlying27 rfl (by kernel_rfl);have e:w.cell? (zA (a+1) 0)=some (.bool x):=by rw [cell_of_row w (a+1) 0 _ _ _ k];rfl
 have m:(loadVar 4 (zA (a+1) 0)).run Tryz.prog w=.ok (.bool x) w:=by
  simp [loadVar,isAgg,run_underlying Tryz.underlying4,go_sem,e]
 simp [results,Tryz.results34,f,g,asAddr,l,m,Result.andThen]
end Go.Proofs.YtckpdfkobdgjeaaGreatDoor
