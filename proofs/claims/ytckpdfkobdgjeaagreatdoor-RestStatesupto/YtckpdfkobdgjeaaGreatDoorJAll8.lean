/- Several texts in one: DelA, DelB, DelC. -/
import Derived.Test.YtckpdfkobdgjeaaGreatDoorJAll7
import Derived.Deep.RegionLaw
import Derived.Lib.SliceRun
namespace Go.Proofs.YtckpdfkobdgjeaaGreatDoor
set_option maxRecDepth 1000000
set_option maxHeartbeats 4000000
open Go.RowKit
set_option linter.unusedSectionVars false
variable [Inhabited Mk]
def Vt:Value:=.agg #[zI 0,zI 0,zI 0,zI 0,zI 0,zN,zN]
theorem Xb (n:Nat):(Builtin.zeroCells Vt.cells n).toList.length=n*7:=by
 rw [Array.length_toList,size_zeroCells];rfl
theorem JN (n:Nat):∀ v∈(Builtin.zeroCells Vt.cells n).toList,v.oneCell'=true:=by
 intro v b;simp only [Builtin.zeroCells,Array.toList_map,List.mem_map] at b;obtain ⟨i,_,rfl⟩:=b;have c:Vt.cells.size=7:=rfl;rw [c];have a:i % 7<7:=Nat.mod_lt _ (by omega);generalize i % 7=j at a
 match j,a with
 | 0,_=>rfl
 | 1,_=>rfl
 | 2,_=>rfl
 | 3,_=>rfl
 | 4,_=>rfl
 | 5,_=>rfl
 | 6,_=>rfl
theorem Wt (w:World) (g o:Nat) (a:Array Value) (t:TypeId) (vs:List Value) (hg:w.heap[g]?=some (.cells a t (0,0))) (f:o+vs.length<=a.size) (d:∀ v∈vs,v.oneCell'=true) :
 w.setCells g o vs=w.setRow g (a.toList.take o++vs++a.toList.drop (o+vs.length)).toArray:=by
 have c:=run_storeCells_at Tryz.prog g o t vs 0 a w hg (by omega) d;have b:=run_storeCells_cells (P:=Tryz.prog) g o vs 0 w (fun j e=>by
  rw [cell_of_row w g _ _ _ _ hg,Array.getElem?_eq_getElem (by omega)];rfl) (fun j e=>frozen_of_row w g _ _ _ hg) d
 simp only [Nat.add_zero] at c b;rw [c] at b;injection b with _ b;exact b.symm
theorem TO (w:World) (g o n c:Nat) (d:TypeId) (a:Array Value) (hg:w.heap[g]?=some (.cells a 60 (0,0))) (hn:0<n) (e:o+n*7<=a.size) :
 (Builtin.clear_ #[38] d #[.slice (zO g o) n c]).run Tryz.prog w=.ok (.tuple #[]) (w.setRow g (a.toList.take o++(Builtin.zeroCells Vt.cells n).toList++a.toList.drop (o+n*7)).toArray):=by
 have b:=run_storeCells_at Tryz.prog g o 60 (Builtin.zeroCells Vt.cells n).toList 0 a w hg (by rw [Xb];omega) (JN n);simp only [Nat.add_zero,Xb] at b;obtain ⟨m,rfl⟩:∃ m,n=m+1:=⟨n-1,by omega⟩;simp only [Builtin.clear_];simp [run_underlying Tryz.underlying38];unfold Vt at b;rw [b];simp [Result.andThen,Vt]
theorem YW (b:BL) (i:Nat) (c:i<=b.length):(ze b).take (i*7)=ze (b.take i):=by
 have e:ze b=ze (b.take i)++ze (b.drop i):=by rw [<-xw,List.take_append_drop]
 have a:(ze (b.take i)).length=i*7:=by rw [zE];simp;omega
 rw [e,<-a,List.take_left]
theorem YV (b:BL) (i:Nat) (c:i<=b.length):(ze b).drop (i*7)=ze (b.drop i):=by
 have e:ze b=ze (b.take i)++ze (b.drop i):=by rw [<-xw,List.take_append_drop]
 have a:(ze (b.take i)).length=i*7:=by rw [zE];simp;omega
 rw [e,<-a,List.drop_left]
theorem Vj (w:World) (g:Nat) (cs:Array Value):(w.setRow g cs).heap.size=w.heap.size:=by simp [World.setRow]
theorem Below.setRow {B:Nat} {a w:World} (h:Below B a w) {g:Nat} (hg:B<=g) (cs:Array Value):Below B a (w.setRow g cs) :=
 h.trans ⟨rfl,rfl,rfl,by rw [Vj];exact Nat.le_refl _,fun k b=>setRow_other w g k cs (by omega)⟩
theorem Mh (w:World) (g c k:Nat) (l:Array Value) (b:BL) (i j:Nat) (ah:i<j) (ai:j<=c) (S:c=b.length) (ak:c<=k) (_hm:k<=9223372036854775807) (hg:w.heap[g]?=some (.cells l 60 (0,0))) (V:l.size=k*7) (D:l.toList.take (c*7)=ze b) :
 zC 91 #[.slice (zO g 0) c k,zI i,zI j] w fun e w'=>e=.returned (.slice (zO g 0) (c-(j-i)) k)/\(∃ n,w'.heap[g]?=some (.cells n 60 (0,0))/\n.size=k*7/\n.toList.take ((c-(j-i))*7)=ze (b.take i++b.drop j))/\(∀ x,x≠g->w'.heap[x]?=w.heap[x]?)/\w'.heap.size=w.heap.size/\∀ B,B<=g->Below B w w':=by
 obtain ⟨aa,W,e⟩:=Option.map_eq_some_iff.1 Z5;simp only [Prod.mk.injEq] at e;obtain ⟨_,Z,_⟩:=e;obtain ⟨d,r⟩:=qB (ze (b.drop j));have q:d.length=(c-j)*7:=by rw [r,zE];simp;omega
 have J:(l.toList.take (c*7)).drop (j*7)=d:=by rw [D,r,YV b j (by omega)]
 have L:∀ (t:Nat) u,d[t]?=some u->l[j*7+t]?=some u:=fun t u m=>by
  rw [<-J,List.getElem?_drop,List.getElem?_take] at m
  split at m
  ·rw [<-Array.getElem?_toList];exact m
  cases m
 obtain ⟨s,ae,X⟩:∃ s:Addr,(if k=j then some (⟨g,0,none⟩:Addr) else some ⟨g,j*7,none⟩)=some s/\Zh (∀ t u,d[t]?=some u->w.drew.cell? (s.add t)=some u):=by
  by_cases h:k=j
  ·refine ⟨(zA g 0),by simp [h],fun t u m=>?_⟩;have P:d.length=0:=(by rw [q];omega);rw [List.length_eq_zero_iff.1 P] at m;simp at m
  refine ⟨(zA g (j*7)),by simp [h],fun t u m=>?_⟩;rw [Addr.add_lit];show w.cell? _=_;rw [cell_of_row w g _ _ _ _ hg];exact L t u m
 have ab:Zh (d.length=(c-j)*7):=q;have N:Zh (∀ u∈d,u.oneCell'=true):=by rw [r];exact y7 _
 have ad:Zh (∀ t,t<d.length->(w.drew.cell? (zA g (0+i*7+t))).isSome=true/\w.drew.frozen? (zA g (0+i*7+t))=false):=by
  intro t Y;rw [q] at Y;refine ⟨?_,frozen_of_row w.drew g _ _ _ hg⟩;show (w.cell? _).isSome=true;rw [cell_of_row w g _ _ _ _ hg,Array.getElem?_eq_getElem (by omega)];rfl
 obtain ⟨f,A⟩:=qB (w.drew.setCells g (0+i*7) d);obtain ⟨c1,v⟩:=qB ((l.toList.take (i*7)++d++l.toList.drop (i*7+d.length)).toArray);have p:f=w.drew.setRow g c1:=by
  rw [A,v,Nat.zero_add];exact Wt w.drew g (i*7) l 60 d hg (by omega) N.o
 have U:c1.size=k*7:=by rw [v];simp;omega
 have G:c1.toList.take ((i+(c-j))*7)=ze (b.take i++b.drop j):=by
  have Q:l.toList.take (i*7)=ze (b.take i):=by rw [<-YW b i (by omega),<-D,List.take_take];congr 1;omega
  have z:(ze (b.take i)++d).length=(i+(c-j))*7:=by rw [List.length_append,q,zE];simp;omega
  rw [v,Q,<-z];show ((ze (b.take i)++d)++_).take _=_;rw [List.take_left,r,xw]
 have C:f.heap[g]?=some (.cells c1 60 (0,0)):=by rw [p];exact setRow_heap w.drew g l _ _ _ hg
 obtain ⟨c2,y⟩:=qB ((c1.toList.take ((i+(c-j))*7)++(Builtin.zeroCells Vt.cells (c-(i+(c-j)))).toList++c1.toList.drop ((i+(c-j))*7+(c-(i+(c-j)))*7)).toArray);have af:∀ E,(Builtin.clear_ #[38] E #[.slice (zO g ((i+(c-j))*7)) (c-(i+(c-j))) (k-(i+(c-j)))]).run Tryz.prog f=.ok (.tuple #[]) (f.setRow g c2):=fun E=>by
  rw [y];exact TO f g _ _ _ E c1 C (by omega) (by omega)
 have H:c2.size=k*7:=by
  have:=Xb (c-(i+(c-j)));rw [Array.length_toList] at this;rw [y];simp [this];omega
 have I:c2.toList.take ((c-(j-i))*7)=ze (b.take i++b.drop j):=by
  have z:(c1.toList.take ((i+(c-j))*7)).length=(i+(c-j))*7:=by rw [List.length_take,Array.length_toList];omega
  rw [show c-(j-i)=i+(c-j) from by omega,y];show ((c1.toList.take _++_)++_).take _=_;rw [List.append_assoc,List.take_left' z,G]
 have O:=zh (show (∃ n,(f.setRow g c2).heap[g]?=some (.cells n 60 (0,0))/\n.size=k*7/\n.toList.take ((c-(j-i))*7)=ze (b.take i++b.drop j))/\(∀ x,x≠g->(f.setRow g c2).heap[x]?=w.heap[x]?)/\(f.setRow g c2).heap.size=w.heap.size/\∀ B,B<=g->Below B w (f.setRow g c2) from by
  refine ⟨⟨c2,setRow_heap f g c1 _ _ _ C,H,I⟩,fun x M=>?_,?_,fun B F=>?_⟩
  ·rw [setRow_other _ _ _ _ M,p,setRow_other _ _ _ _ M];rfl
  ·rw [Vj,p,Vj];rfl
  rw [p];exact Below.setRow (a:=w) (w:=w.drew.setRow g c1) (Below.setRow (a:=w) (w:=w.drew) ⟨rfl,rfl,rfl,Nat.le_refl _,fun _ _=>rfl⟩ F _) F _)
 have R:Zh (f=w.drew.setCells g (0+i*7) d):=A;have ag:i<=k:=by omega
 have aj:j<=k:=by omega
 have al:¬i=j:=by omega
 clear A p C hg L J r q V D S v U G y H I;go_enter Tryz.func91,Tryz.ntmps91;go_wp2_with fail
 go_region_law (refine step_append_room rfl (.tmp 22) (.tmp 25) 38 rfl 60 aa 7 Tryz.underlying38 W Z g 0 i k (by simp [Act.eval,Act.put]) s (c-j) (k-j) d (by simp [Act.eval,Act.put]) ab.o X.o N.o (by omega) ad.o ?_;rw [<-R.o])
 go_wp2;go_ret;exact ⟨by rw [show c-(j-i)=i+(c-j) by omega];rfl,O.o⟩
theorem P8 {w w':World} {B g n k:Nat} {b b1:BL} (h:OwnBks w B (.slice (zO g 0) n k) b) (A:∀ x∈b1,x∈b) (F:b1.length<=n) (z:∃ p,w'.heap[g]?=some (.cells p 60 (0,0))/\p.size=k*7/\p.toList.take (b1.length*7)=ze b1)
 (r:∀ x,x≠g->x<w.heap.size->w'.heap[x]?=w.heap[x]?):OwnBks w' B (.slice (zO g 0) b1.length k) b1:=by
 obtain ⟨p,s,t,u⟩:=z;have q:∀ i,i<b1.length->∃ j,j<b.length/\bk b j=bk b1 i:=fun i f=>yT (A _ (yx f));refine ⟨⟨by rw [zE],Or.inr ?_⟩,fun i f=>?_,fun i f=>?_,fun i f c d m e=>?_,fun i f c d m e=>?_⟩
 ·rcases h.row.2 with ⟨C,_⟩ | ⟨d,D,E,e,v,hg,G,y,_,_⟩
  ·cases C
  simp only [Value.slice.injEq,Option.some.injEq,Addr.mk.injEq] at e;obtain ⟨⟨rfl,_,_⟩,o,rfl⟩:=e;exact ⟨g,k,p,rfl,v,s,by omega,y,t,u⟩
 ·obtain ⟨j,a,e⟩:=q i f;rw [<-e];exact RunsIn.of_away (h.rqs j a) fun c d m o=>r d (fun l=>h.farP j a c d m o (by rw [l];rfl)) (RunsIn.lt (h.rqs j a) c o)
 ·obtain ⟨j,a,e⟩:=q i f;rw [<-e];exact (h.bites j a).of_away fun c d m o=>r d (fun l=>h.farB j a c d m o (by rw [l];rfl)) ((h.bites j a).lt c o)
 ·obtain ⟨j,a,l⟩:=q i f;rw [<-l] at c e;exact xc.2 (xc.1 (h.farP j a c d m e))
 ·obtain ⟨j,a,l⟩:=q i f;rw [<-l] at c e;exact xc.2 (xc.1 (h.farB j a c d m e))
theorem P7 {w:World} {B g n k:Nat} {b:BL} (h:OwnBks w B (.slice (zO g 0) n k) b):∃ a,w.heap[g]?=some (.cells a 60 (0,0))/\n=b.length/\n<=k/\k<=9223372036854775807/\a.size=k*7/\a.toList.take (n*7)=ze b/\B<=g:=by
 rcases h.row.2 with ⟨m,_⟩ | ⟨p,o,a,e,i,hg,j,l,d,f⟩
 ·cases m
 simp only [Value.slice.injEq,Option.some.injEq,Addr.mk.injEq] at e;obtain ⟨⟨rfl,_,_⟩,c,rfl⟩:=e;subst c;exact ⟨a,hg,rfl,j,by simpa [maxLen] using l,d,f,i⟩
def J9 (w w':World) (v:Value) (c n:Int) (tn m:Nat) (l:QL) (bx:BL):Prop:=∃ g k1 l' aa k9 b9,v=.agg (zS c n (zO g 0) tn k1 aa m k9)/\zY w' (zO g 0) tn k1 l' aa m k9 b9/\zi l'=zi l/\zg b9=zg bx/\Below w.heap.size w w'/\NewSt w.heap.size (zO g 0) tn l' aa m b9
theorem ZK (w:World) (a b c d:Value) {e:World} (f:e=(w.alloc (.cells #[a,b,c,d] 40)).alloc (.cells zZ 40)):zj e w.heap.size a b c d/\zj e (w.heap.size+1) (zI 0) (zI 0) zN zN/\Below w.heap.size w e/\e.heap.size=w.heap.size+2:=by
 subst f;refine ⟨(Below.heap_alloc _ _ _ (by simp)).trans (heap_alloc_new w _),?_,(zr _ _).alloc (by simp) _,by simp⟩;have:=zj.new (w.alloc (.cells #[a,b,c,d] 40)) (zI 0) (zI 0) zN zN;rw [World.size_alloc] at this;exact this
theorem SB (w:World) (g a k:Nat) (c:Array Value) (b:BL) (i:Nat) (o:i<a) (f:a=b.length) (l:a<=k) (m:k<=9223372036854775807) (hg:w.heap[g]?=some (.cells c 60 (0,0))) (j:c.size=k*7) (n:c.toList.take (a*7)=ze b) :
 zC 91 #[.slice (zO g 0) a k,zI i,zI ((i:Int)+1)] w fun e w'=>e=.returned (.slice (zO g 0) (a-1) k)/\(∃ d,w'.heap[g]?=some (.cells d 60 (0,0))/\d.size=k*7/\d.toList.take ((a-1)*7)=ze (b.take i++b.drop (i+1)))/\(∀ x,x≠g->w'.heap[x]?=w.heap[x]?)/\w'.heap.size=w.heap.size/\∀ B,B<=g->Below B w w':=by
 have h:=Mh w g a k c b i (i+1) (by omega) (by omega) f l m hg j n;rw [show ((i+1:Nat):Int)=(i:Int)+1 from by omega,show a-(i+1-i)=a-1 from by omega] at h;exact h
theorem PA (w:World) (c n:Int) (m:Option Addr) (r q:Nat) (l:QL) (f:Option Addr) (i g:Nat) (b:BL) (h:zY w m r q l f i g b) (a:Int) (x:xy c n l b a≠0) :
 zC 53 #[.agg (zS c n m r q f i g),zI a] w fun e w'=>e=.returned (.tuple #[.agg zZ,zI (xy c n l b a)])/\Below w.heap.size w w':=by
 obtain ⟨S,F⟩:=qA (w.heap.size);obtain ⟨u,y⟩:=qB ((w.alloc (.cells (zS c n m r q f i g) 40)).alloc (.cells zZ 40));obtain ⟨C,D,A,G⟩:=ZK w _ _ _ _ y;rw [F] at C D G;have t:=QI u c n m r q l f i g b (h.later A) a;have N:=zh D;have H:=zh A;have M:=zh y;have L:=zh F;obtain ⟨O,c1,c2,c3⟩:=C.cells;obtain ⟨d,E⟩:=qA (xy c n l b a);rw [E] at t x ⊢;have Q:(d != 0)=true:=by simp [x]
 have J:=zh t;clear y C D A h G t E x;go_enter Tryz.func53,Tryz.ntmps53;go_wp2_with fail
 rw [<-M.o];refine J.o.mono ?_;rintro e B ⟨rfl,z⟩;have s:=zh (N.o.later z);have I:=zh (za H.o z);clear z O c1 c2 c3;obtain ⟨R,U,V,W⟩:=s.o.cells;have X:∀ k,B.frozen? (zA (S+1) k)=false:=fun k=>frozen_of_row B (S+1) k _ _ s.o;go_wp2_with fail
 have P:=zk B (S+1) 40 _ _ _ _ (zI 0) (zI 0) zN zN s.o;have j:w.heap.size<=S+1:=by have:=L.o;omega
 refine bodyPost_ret (v:=.tuple #[.agg zZ,zI d]) (zt Tryz.results53 _ _ (S+1) 40 zZ (0,0) _ rfl P.1 Tryz.underlying40 rfl (by kernel_rfl)) rfl ⟨rfl,?_⟩;exact ((((I.o.setCell (p:=(zA (S+1) 0)) j _).setCell (p:=(zA (S+1) 1)) j _).setCell (p:=(zA (S+1) 2)) j _).setCell (p:=(zA (S+1) 3)) j _)
def GO (w w':World) (e:Ending) (c n:Int) (tn m:Nat) (l:QL) (bx:BL):Prop:=∃ v,e=.returned (.tuple #[v,zI 0])/\J9 w w' v c n tn m l bx
theorem Ma (w:World) (c n:Int) (aa:Option Addr) (y ab:Nat) (l:QL) (P:Option Addr) (q Q:Nat) (b:BL) (h:zY w aa y ab l P q Q b) (Z:Int) (d:zU c n l b=0) (i:Nat) (s:yS b Z=some i) :
 zC 53 #[.agg (zS c n aa y ab P q Q),zI Z] w fun e w'=>GO w w' e c n y (q-1) l (b.take i++b.drop (i+1)):=by
 have au:=yZ d;have aV:=XT h au.clean;have bx:=h.2.len;have bz:=au.clean.few;have bA:i<q:=by
  have:=(yz s).2.1;omega
 have N:xy c n l b Z=0:=by unfold xy;rw [if_pos d,s];rfl
 have aM:Ux c n l b Z=i:=by unfold Ux;rw [if_pos d,s]
 obtain ⟨S,aO⟩:=qA (w.heap.size);obtain ⟨aq,av⟩:=qB ((w.alloc (.cells (zS c n aa y ab P q Q) 40)).alloc (.cells zZ 40));obtain ⟨am,aC,aw,az⟩:=ZK w _ _ _ _ av;rw [aO] at am aC az;have ap:=QI aq c n aa y ab l P q Q b (h.later aw) Z;rw [N,aM] at ap;have br:=zh fun X (bw:zL w X)=>Vw X c n aa y ab l P q Q b (h.later bw) aV;have bs:=zh am;have bt:=zh aC;have a7:=zh aw;have bl:=zh av;have aI:=zh aO;have bi:=zh az;obtain ⟨R,c1,c2,c3⟩:=am.cells;have be:=zh ap;have bZ:i<12:=by omega
 clear av am aC aw h az ap d s au aV N aM bx bz;go_enter Tryz.func53,Tryz.ntmps53;go_wp2_with fail
 rw [<-bl.o];refine be.o.mono ?_;rintro e C ⟨rfl,E⟩;have aJ:=zh (bs.o.later E);have bo:=zh (bt.o.later E);have aD:=zh (za a7.o E);have ae:Zh (S+2<=C.heap.size):=by have:=E.size;have:=bi.o;show S+2<=C.heap.size;omega
 clear E R c1 c2 c3;obtain ⟨R,c1,c2,c3⟩:=aJ.o.cells;go_wp2_with fail
 refine (br.o C aD.o).mono ?_;rintro e H ⟨g,G,ak,bu,A,r,rfl,u,bD,aP,aT,aR,E⟩;obtain ⟨f,rfl⟩:∃ f,bu=some ⟨f,0,none⟩:=by
  rcases u.bks.row.2 with ⟨b4,bW⟩ | ⟨f,bV,aL,e,_⟩
  ·omega
  simp only [Value.slice.injEq] at e;exact ⟨f,e.1⟩
 obtain ⟨I,U⟩:=qB (H.alloc (.cells (zS c n (some ⟨g,0,none⟩) y G (some ⟨f,0,none⟩) q A) 40));have O:zL H I:=by rw [U];exact zr _ _
 have ay:I.heap.size=H.heap.size+1:=by rw [U];simp
 have aj:zj I H.heap.size (zI c) (zI n) (.slice (zO g 0) y G) (.slice (zO f 0) q A):=by rw [U];exact zj.new H _ _ _ _
 obtain ⟨aL,a0,a1,a2,a3,a4,a5,bN⟩:=P7 (u.bks.later O);have aK:=SB I f q A aL r i bA a1 a2 a3 a0 a4 a5;have ax:C.heap.size<=f/\f<H.heap.size:=u.bks.row.lt f rfl;have hg:C.heap.size<=g/\g<H.heap.size:=u.qs.row.lt g rfl;obtain ⟨B,bv⟩:=qA (H.heap.size);rw [bv] at aj ay ax hg;have bp:=zh aj;have bg:=zh (u.bks.later O);have aF:=zh (u.qs.later O);have ad:=zh ax;have bc:=zh hg;have aH:Zh (∀ i,i<ak.length->0<(qu ak i).cn->∀ a m,(qu ak i).ca=zO a m->C.heap.size<=a/\a<B/\a≠f):=zh fun i s d a m e=>by
  have z:=u.newC i s d a m e;have ar:=(u.qs.caps i s).lt d e;have aN:=(u.apart f rfl).2 i s d a m e;exact ⟨z,by omega,aN⟩
 have bd:Zh (g≠f):=zh (xc.1 (u.apart f rfl).1);have ag:Zh (∀ i,i<r.length->(0<(bk r i).rq.pn->∀ g m,(bk r i).rq.pa=zO g m->C.heap.size<=g/\g<B)/\(0<(bk r i).bn->∀ g m,(bk r i).ba=zO g m->C.heap.size<=g/\g<B)):=zh fun i s=>⟨fun d g m e=>by have z:=u.newP i s d g m e;have ar:=RunsIn.lt (u.bks.rqs i s) d e;omega,fun d g m e=>by have z:=u.newB i s d g m e;have ar:=(u.bks.bites i s).lt d e;omega⟩;have ao:=zh aP;have bb:=zh aT;have ba:=zh aR;have bf:=zh aK;have bm:=zh U;have bT:=zh ay;have bq:=zh ((bo.o.later E).later O);have a8:=zh (za (za aD.o E) O);have aE:Zh (C.heap.size<=B):=by have:=E.size;show C.heap.size<=B;omega
 obtain ⟨bF,bG,bH,bI⟩:=aj.cells;have b0:(0:Int)<=i:=by omega
 clear E O ay aj u bD aP aT aR U aK a0 a1 a2 a3 a4 a5 bN ax hg R c1 c2 c3;obtain ⟨R,c1,c2,c3⟩:=aJ.o.cells;go_wp2_with fail
 rw [<-bm.o];refine bf.o.mono ?_;rintro e F ⟨rfl,aY,ai,bE,aS⟩;have an:zj F B (zI c) (zI n) (.slice (zO g 0) y G) (.slice (zO f 0) q A):=(ai B (by have:=ad.o;omega)).trans bp.o;have a6:zj F (S+1) (zI 0) (zI 0) zN zN:=(ai (S+1) (by have:=ad.o;have:=ae.o;omega)).trans bq.o;obtain ⟨D,L⟩:=qB (F.setCell ⟨B,3,none⟩ (.slice (some ⟨f,0,none⟩) (q-1) A));have aB:zj D B (zI c) (zI n) (.slice (zO g 0) y G) (.slice (zO f 0) (q-1) A):=by
  rw [L];unfold zj;rw [heap_setCell_same F B 3 _ _ _ an];rfl
 have al:zj D (S+1) (zI 0) (zI 0) zN zN:=by rw [L];exact (heap_setCell_other F (zA B 3) (S+1) _ (by have:=aE.o;have:=ae.o;simp only;omega)).trans a6
 have aW:∀ k,k≠B->D.heap[k]?=F.heap[k]?:=fun k bB=>by rw [L];exact heap_setCell_other F (zA B 3) k _ bB
 have aQ:zL w D:=by
  rw [L];have z:=ad.o;have ar:=aI.o;have aN:=ae.o;have bX:=aE.o;exact (a8.o.trans (aS _ (by omega))).setCell (p:=(zA B 3)) (by simp only;omega) _
 have bh:=zh aY;have aG:=zh ai;have af:=zh aW;have a9:=zh aQ;have bn:=zh L;have bU:=zh aB;have bj:=zh al;obtain ⟨b5,b6,b7,b8⟩:=an.cells;have b9:∀ k,F.frozen? (zA B k)=false:=fun k=>frozen_of_row F B k _ _ an;obtain ⟨bJ,bK,bL,bM⟩:=aB.cells;obtain ⟨bO,bP,bQ,bR⟩:=al.cells;have bS:∀ k,D.frozen? (zA (S+1) k)=false:=fun k=>frozen_of_row D (S+1) k _ _ al;rw [L] at bJ bK bL bM bO bP bQ bR bS;clear aY ai bE aS an a6 L aB al aW aQ bF bG bH bI R c1 c2 c3;go_wp2_with fail
 rw [<-bn.o];have Y:=zk D (S+1) 40 _ _ _ _ (zI c) (zI n) (.slice (zO g 0) y G) (.slice (zO f 0) (q-1) A) bj.o;have ah:w.heap.size<=S+1:=by have:=aI.o;omega
 have bY:=ad.o;have aU:=bc.o;have b3:=ae.o;have aX:∀ k,C.heap.size<=k->k<B->k≠f->((((D.setCell (zA (S+1) 0) (zI c)).setCell (zA (S+1) 1) (zI n)).setCell (zA (S+1) 2) (.slice (zO g 0) y G)).setCell (zA (S+1) 3) (.slice (zO f 0) (q-1) A)).heap[k]?=I.heap[k]?:=fun k b1 b2 bC=>by
  rw [Y.2 k (by omega),af.o k (by omega),aG.o k bC]
 refine bodyPost_ret (v:=.tuple #[.agg (zS c n (zO g 0) y G (zO f 0) (q-1) A),zI 0]) (zt Tryz.results53 _ _ (S+1) 40 (zS c n (zO g 0) y G (zO f 0) (q-1) A) (0,0) _ rfl Y.1 Tryz.underlying40 rfl (by kernel_rfl)) rfl ⟨_,rfl,g,G,ak,zO f 0,A,r.take i++r.drop (i+1),rfl,⟨?_,?_⟩,bb.o,?_,?_,?_⟩
 ·refine y6 (aF.o.blocks2 (fun a e=>?_) (fun i s d a m e=>?_))
  ·have e:g=a:=(by simpa [Value.ownBlock] using e);subst e;exact aX g aU.1 aU.2 bd.o
  have z:=aH.o i s d a m e;exact aX a z.1 z.2.1 z.2.2
 ·have W:(r.take i++r.drop (i+1)).length=q-1:=by have:=ao.o;simp;omega
  have aZ:=P8 (w':=F) bg.o (fun x aA=>wK aA) (by rw [W];omega) (by rw [W];exact bh.o) (fun x aA _=>aG.o x aA);rw [W] at aZ;refine ym (aZ.blocks (fun a e=>?_) (fun j V d a m e=>?_) (fun j V d a m e=>?_))
  ·have e:f=a:=(by simpa [Value.ownBlock] using e);subst e;rw [Y.2 f (by omega),af.o f (by omega)]
  ·obtain ⟨t,M,J⟩:=yT (wK (yx V));rw [<-J] at d e;have z:=(ag.o t M).1 d a m e;rw [Y.2 a (by omega),af.o a (by omega)]
  obtain ⟨t,M,J⟩:=yT (wK (yx V));rw [<-J] at d e;have z:=(ag.o t M).2 d a m e;rw [Y.2 a (by omega),af.o a (by omega)]
 ·have:=ba.o;unfold zg at this ⊢;rw [List.map_append,List.map_append,List.map_take,List.map_take,List.map_drop,List.map_drop,this]
 ·exact ((((a9.o.setCell (p:=(zA (S+1) 0)) ah _).setCell (p:=(zA (S+1) 1)) ah _).setCell (p:=(zA (S+1) 2)) ah _).setCell (p:=(zA (S+1) 3)) ah _)
 ·refine ⟨fun _ a m e=>?_,fun i s d a m e=>?_,fun _ a m e=>?_,fun j V d a m e=>?_,fun j V d a m e=>?_⟩
  ·have N:g=a:=(by injection e with e;injection e with N);omega
  ·have z:=aH.o i (by have:=(y6 aF.o).len;omega) d a m e;omega
  ·have N:f=a:=(by injection e with e;injection e with N);omega
  ·have W:(r.take i++r.drop (i+1)).length=q-1:=(by have:=ao.o;simp;omega);obtain ⟨t,M,J⟩:=yT (wK (yx (show j<(r.take i++r.drop (i+1)).length by omega)));rw [<-J] at d e;have z:=(ag.o t M).1 d a m e;omega
  have W:(r.take i++r.drop (i+1)).length=q-1:=by have:=ao.o;simp;omega
  obtain ⟨t,M,J⟩:=yT (wK (yx (show j<(r.take i++r.drop (i+1)).length by omega)));rw [<-J] at d e;have z:=(ag.o t M).2 d a m e;omega
theorem QP (w:World) (x:Bk) (T:Nat) (t:Int) (j:w.cell? (zA T 0)=some (zI t)) (l:zH w x.rq) (a:RunsIn w x.ba x.bn x.bc x.bs) :
 zC 93 #[.agg #[zI x.id,zI x.rq.queue,zI x.rq.fr,zI x.rq.un,zI x.rq.kind,.slice x.rq.pa x.rq.pn x.rq.pc,.slice x.ba x.bn x.bc],.pointer (zO T 0)] w fun e w'=>e=.returned (.bool (decide (yA x<=t)))/\Below w.heap.size w w':=by
 obtain ⟨d,f⟩:=qB (w.alloc (.cells (zB x) 60));have c:zL w d:=by rw [f];exact zr _ _
 have b:=ON d x.rq (zH.later l c) x.ba x.bn x.bc x.bs (a.later c);rw [show (if yd x.rq x.bs=true then zJ x.rq x.bs x.bs.length else 0)=yA x from rfl] at b;obtain ⟨h,k⟩:=qA (yA x);rw [k] at b ⊢;obtain ⟨g,i⟩:=qA ((if yd x.rq x.bs=true then (0:Int) else 1));rw [i] at b;have p:=zh b;have r:=zh f;have m:=zh c;have q:=zh (cell_later c j);clear b f c j l a k i;go_enter Tryz.func93,Tryz.ntmps93;go_wp2_with fail
 rw [<-r.o];refine p.o.mono ?_;rintro e u ⟨rfl,a⟩;have s:=cell_later a q.o;have n:=zh (za m.o a);clear a;go_wp2;go_ret;exact ⟨rfl,n.o⟩
def OG (w w':World) (e:Ending) (B:Nat) (aa:Option Addr) (bn k:Nat) (b1:BL):Prop:=e=.returned (.slice aa b1.length k)/\OwnBks w' B (.slice aa b1.length k) b1/\(∀ x,x<w.heap.size->(Value.slice aa bn k).ownBlock≠some x->w'.heap[x]?=w.heap[x]?)/\Below B w w'
structure Swept (w wr:World) (B g bn k:Nat) (b:BL) (q:Bk->Bool) (i j:Nat):Prop where
 len:i=((b.take j).filter fun x=>!q x).length
 row:∃ cur,wr.heap[g]?=some (.cells cur 60 (0,0))/\cur.size=k*7/\cur.toList.take (i*7)=ze ((b.take j).filter fun x=>!q x)/\(cur.toList.take (bn*7)).drop (j*7)=ze (b.drop j)
 oth:∀ x,x≠g->x<w.heap.size->wr.heap[x]?=w.heap[x]?
 below:Below B w wr
theorem PU {b:BL} {j:Nat} (h:j<b.length):b.drop j=bk b j::b.drop (j+1):=by
 rw [Ta h];exact List.drop_eq_getElem_cons h
theorem Oq {b:BL} {j:Nat} (h:j<b.length):b.take (j+1)=b.take j++[bk b j]:=by
 rw [Ta h,List.take_succ_eq_append_getElem h]
theorem Swept.cell {w wr:World} {B g d k:Nat} {b:BL} {q:Bk->Bool} {i j:Nat} (h:Swept w wr B g d k b q i j) (l:j<b.length) {m:Nat} {u:Value} (c:(zx (bk b j))[m]?=some u):wr.cell? (zA g (j*7+m))=some u:=by
 obtain ⟨n,e,o,p,f⟩:=h.row;rw [cell_of_row wr g _ _ _ _ e];have a:(ze (b.drop j))[m]?=some u:=by
  rw [PU l,ze,List.getElem?_append_left (List.getElem?_eq_some_iff.1 c).1];exact c
 rw [<-f,List.getElem?_drop,List.getElem?_take] at a
 split at a
 ·rw [<-Array.getElem?_toList];exact a
 cases a
theorem Swept.later {w wr f:World} {B g c k:Nat} {b:BL} {q:Bk->Bool} {i j:Nat} (h:Swept w wr B g c k b q i j) (p:B<=wr.heap.size) (a:Below wr.heap.size wr f):Swept w f B g c k b q i j:=by
 obtain ⟨l,d,m,n,o⟩:=h.row;exact ⟨h.len,⟨l,(a.block g (Array.getElem?_eq_some_iff.1 d).1).trans d,m,n,o⟩,fun x r e=>(a.block x (Nat.lt_of_lt_of_le e h.below.size)).trans (h.oth x r e),h.below.trans (a.mono p)⟩
theorem Swept.skip {w wr:World} {B g a k:Nat} {b:BL} {q:Bk->Bool} {i j:Nat} (h:Swept w wr B g a k b q i j) (c:j<b.length) (o:q (bk b j)=true):Swept w wr B g a k b q i (j+1):=by
 obtain ⟨d,f,l,m,n⟩:=h.row;have e:(b.take (j+1)).filter (fun x=>!q x)=(b.take j).filter fun x=>!q x:=by rw [Oq c,List.filter_append];simp [o]
 refine ⟨by rw [e];exact h.len,⟨d,f,l,by rw [e];exact m,?_⟩,h.oth,h.below⟩;rw [show (j+1)*7=j*7+7 from by omega,<-List.drop_drop,n,PU c,ze];rfl
theorem Swept.stay {w wr:World} {B g c k:Nat} {b:BL} {q:Bk->Bool} {i j:Nat} (h:Swept w wr B g c k b q i j) (E:c=b.length) (G:c<=k) (l:j<b.length) (F:i<j) (z:q (bk b j)=false) (v:B<=g):Swept w (wr.setCells g (i*7) (zx (bk b j))) B g c k b q (i+1) (j+1):=by
 obtain ⟨a,f,D,s,t⟩:=h.row;have d:(zx (bk b j)).length=7:=rfl;have e:(b.take (j+1)).filter (fun x=>!q x)=((b.take j).filter fun x=>!q x)++[bk b j]:=by rw [Oq l,List.filter_append];simp [z]
 have y:∀ u∈zx (bk b j),u.oneCell'=true:=fun u A=>y7 [bk b j] u (by simpa [ze] using A);rw [Wt wr g (i*7) a 60 _ f (by rw [d];omega) y,d];have o:(a.toList.take (i*7)).length=i*7:=by rw [List.length_take,Array.length_toList];omega
 refine ⟨by rw [e,List.length_append,<-h.len];rfl,⟨_,setRow_heap wr g a _ _ _ f,?_,?_,?_⟩,fun x p C=>(setRow_other wr g x _ p).trans (h.oth x p C),Below.setRow h.below v _⟩
 ·simp [d];omega
 ·show ((a.toList.take (i*7)++zx (bk b j))++_).take _=_;rw [List.take_left' (by rw [List.length_append,o,d];omega),e,xw,s];simp [ze]
 show (((a.toList.take (i*7)++zx (bk b j))++a.toList.drop (i*7+7)).take (c*7)).drop ((j+1)*7)=_;have n:(a.toList.take (i*7)++zx (bk b j)).length=i*7+7:=by rw [List.length_append,o,d]
 have r:(a.toList.take (c*7)).drop ((j+1)*7)=ze (b.drop (j+1)):=by
  rw [show (j+1)*7=j*7+7 from by omega,<-List.drop_drop,t,PU l,ze];rfl
 rw [<-r];apply List.ext_getElem?;intro m;rw [List.getElem?_drop,List.getElem?_drop,List.getElem?_take,List.getElem?_take]
 split
 ·rw [List.getElem?_append_right (by rw [n];omega),n,List.getElem?_drop]
  congr 1
  omega
 rfl
theorem Swept.has {w wr:World} {B g a k:Nat} {b:BL} {q:Bk->Bool} {i j:Nat} (h:Swept w wr B g a k b q i j) {o:Nat} (f:o<k*7):∃ u,wr.cell? (zA g o)=some u:=by
 obtain ⟨c,d,e,_⟩:=h.row;exact ⟨c[o],by rw [cell_of_row wr g _ _ _ _ d,Array.getElem?_eq_getElem (by omega)]⟩
theorem Swept.soft {w wr:World} {B g a k:Nat} {b:BL} {q:Bk->Bool} {i j:Nat} (h:Swept w wr B g a k b q i j) (o:Nat):wr.frozen? (zA g o)=false:=by
 obtain ⟨d,c,_⟩:=h.row;exact frozen_of_row wr g o _ _ c
theorem Gm {w:World} {T o:Nat} {u:Value} (h:w.cell? (zA T o)=some u):T<w.heap.size:=by
 rcases Nat.lt_or_ge T w.heap.size with a | a
 ·exact a
 simp [World.cell?,Array.getElem?_eq_none a] at h
theorem SA (w:World) (B T:Nat) (H:B<=w.heap.size) (t:Int) (n:Option Addr) (a k:Nat) (b:BL) (q:OwnBks w B (.slice n a k) b) (L:a=b.length) (bg:a<=12) (I:w.cell? (zA T 0)=some (zI t)) (ab:(Value.slice n a k).ownBlock≠some T) :
 zC 92 #[.slice n a k,.func (.func 93) #[] #[.pointer (zO T 0)]] w fun e w'=>OG w w' e B n a k (b.filter fun x=>!decide (yA x<=t)):=by
 have u:=SD 93 #[.pointer (zO T 0)] (fun x=>decide (yA x<=t)) (fun args w=>by go_simp) w n a k b (ym q) (fun w' aY x aa aT=>QP w' x T t (cell_later aY I) aa aT);cases z:zw (fun i=>decide (yA (bk b i)<=t)) 0 a with
 | none =>
  have aE:(b.filter fun x=>!decide (yA x<=t))=b:=by
   refine List.filter_eq_self.2 fun x h=>?_;obtain ⟨i,bj,rfl⟩:=yT h;have:=Yy z i (by omega) (by omega);rw [this];rfl
  rw [aE];rw [z] at u;have U:=zh u;have S:Zh (∀ w',zL w w'->OG w w' (.returned (.slice n a k)) B n a k b):=zh fun w' d=>by
   unfold OG;rw [<-L];exact ⟨rfl,q.later d,fun x h _=>d.block x h,d.mono H⟩
  clear u z aE I ab q L;go_enter Tryz.func92,Tryz.ntmps92;go_wp2_with fail
  refine U.o.mono ?_;rintro e r ⟨rfl,d⟩;have aO:=zh (S.o r d);clear d;simp only [IB];go_wp2;go_ret;exact aO.o
 | some i0 =>
  obtain ⟨_,aV,aI,aH⟩:=yz z;have bl:i0<a:=by omega
  obtain ⟨g,rfl⟩:∃ g,n=some ⟨g,0,none⟩:=by
   rcases q.row.2 with ⟨bw,bf⟩ | ⟨g,be,ay,e,_⟩
   ·omega
   simp only [Value.slice.injEq] at e;exact ⟨g,e.1⟩
  obtain ⟨ay,Q,a1,bx,a2,aM,al,aN⟩:=P7 q;have aC:T≠g:=fun e=>ab (by rw [e];rfl);have ag:(b.take (i0+1)).filter (fun x=>!decide (yA x<=t))=b.take i0:=by
   rw [Oq (by omega),List.filter_append];have aa:(b.take i0).filter (fun x=>!decide (yA x<=t))=b.take i0:=by
    refine List.filter_eq_self.2 fun x h=>?_;obtain ⟨s,ai,rfl⟩:=yT h;have aJ:s<i0:=(by simp at ai;omega);have e:bk (b.take i0) s=bk b s:=(by unfold bk;simp [List.getD,aJ]);rw [e,aH s (by omega) aJ];rfl
   rw [aa];have aX:yA (bk b i0)<=t:=of_decide_eq_true aI;simp [aX]
  have az:∀ r,zL w r->Swept w r B g a k b (fun x=>decide (yA x<=t)) i0 (i0+1):=fun r d=>by
   refine ⟨by rw [ag];simp;omega,⟨ay,(d.block g (Array.getElem?_eq_some_iff.1 Q).1).trans Q,aM,?_,?_⟩,fun x _ h=>d.block x h,d.mono H⟩
   ·rw [ag,<-YW b i0 (by omega),<-al,List.take_take];congr 1;omega
   rw [al,YV b (i0+1) (by omega)]
  rw [z] at u;have U:=zh u;have ar:=zh az;have p:=zh q;have av:=zh I;have R:=zh L;have ao:=zh aN;have aR:=zh aC;have ap:=zh H;have aG:=(Array.getElem?_eq_some_iff.1 Q).1;have a5:=zh aG;clear u z ag az aH aI q I ab L Q a1 a2 aM al aN aC H aG aV;go_enter Tryz.func92,Tryz.ntmps92;go_wp2_with fail
  refine U.o.mono ?_;rintro e r ⟨rfl,d⟩;have aQ:=zh (ar.o r d);clear d ar;simp only [IB];have bu:((i0:Int)==-1)=false:=by simp
  have bv:IntKind.i64.wrap ((i0:Int)+1)=(i0:Int)+1:=by rw [IntKind.wrap_i64];omega
  go_wp2;go_loopw [5,6,7] (fun a3 am _ wr=>∃ i j:Nat,a3=zI i/\am=zI j/\i<j/\j<=a/\Swept w wr B g a k b (fun x=>decide (yA x<=t)) i j) (fun _ am _ _=>a-(intOf am).toNat)
  case atStart=>exact ⟨i0,i0+1,rfl,by go_num,by omega,by omega,aQ.o⟩
  obtain ⟨i,j,rfl,rfl,aW,bp,aA⟩:=hrel;have c:=zh aA;clear aA;by_cases br:j<a
  ·have bt:(j:Int)<a:=(by omega);have f:j<b.length:=(by have:=R.o;omega);have Y:=c.o.cell f (m:=0) rfl;have c1:=c.o.cell f (m:=1) rfl;have c2:=c.o.cell f (m:=2) rfl;have c3:=c.o.cell f (m:=3) rfl;have c4:=c.o.cell f (m:=4) rfl;have c5:=c.o.cell f (m:=5) rfl;have ax:=c.o.cell f (m:=6) rfl;simp only [Nat.add_zero] at Y;have ah:zH wr (bk b j).rq:=RunsIn.of_away (p.o.rqs j f) fun G F aj E=>c.o.oth F (fun Z=>p.o.farP j f G F aj E (by rw [Z];rfl)) (RunsIn.lt (p.o.rqs j f) G E);have af:RunsIn wr (bk b j).ba (bk b j).bn (bk b j).bc (bk b j).bs:=(p.o.bites j f).of_away fun G F aj E=>c.o.oth F (fun Z=>p.o.farB j f G F aj E (by rw [Z];rfl)) ((p.o.bites j f).lt G E);obtain ⟨X,ad⟩:=qA (bk b j);rw [ad] at Y c1 c2 c3 c4 c5 ax ah af;obtain ⟨C,J⟩:=qB (wr.alloc (.cells (zB X) 60));have y:zL wr C:=(by rw [J];exact zr _ _);have aF:ww C wr.heap.size X:=(by rw [J];exact heap_alloc_new wr _);have aD:wr.cell? (zA T 0)=some (zI t):=(World.cell?_of_block (w:=w) (c.o.oth T aR.o (by have:=av.o;exact Gm this))).trans av.o;have aw:=QP C X T t (cell_later y aD) (zH.later ah y) (af.later y);have aP:=zh aw;have W:=zh ad;have aS:=zh J;have aq:=zh aF;have a4:=zh y;have aB:=c.o.later (Nat.le_trans ap.o c.o.below.size) y;have au:=zh aB;obtain ⟨P,aU⟩:=qA (wr.heap.size);rw [aU] at aq;clear ad J y aF aw aD aB ah af;go_wp2_with fail
   rw [<-aS.o];refine aP.o.mono ?_;rintro e bN ⟨rfl,d⟩;have l:=zh (au.o.later (Nat.le_trans ap.o au.o.below.size) d);obtain ⟨a6,b1,a7,a8,a9,bb,bd⟩:=(aq.o.later d).cells;clear d Y c1 c2 c3 c4 c5 ax;by_cases A:yA X<=t
   ·have V:=zh A;rw [decide_eq_true A];clear A;go_wp2;go_roundw
    case rel=>exact ⟨i,j+1,rfl,by go_num,by omega,by omega,l.o.skip f (by rw [W.o];exact decide_eq_true V.o)⟩
    case measure=>simp [intOf];omega
   have V:=zh A;rw [decide_eq_false A];clear A;have bo:(i:Int)<a:=(by omega);obtain ⟨bz,bG⟩:=l.o.has (o:=i*7) (by omega);obtain ⟨bA,bH⟩:=l.o.has (o:=i*7+1) (by omega);obtain ⟨bB,bI⟩:=l.o.has (o:=i*7+2) (by omega);obtain ⟨bC,bJ⟩:=l.o.has (o:=i*7+3) (by omega);obtain ⟨bD,bK⟩:=l.o.has (o:=i*7+4) (by omega);obtain ⟨bE,bL⟩:=l.o.has (o:=i*7+5) (by omega);obtain ⟨bF,bM⟩:=l.o.has (o:=i*7+6) (by omega);have bi:=l.o.soft;go_wp2;go_roundw
   case rel =>
    have aK:=l.o.stay R.o (by omega) f aW (by rw [W.o];exact decide_eq_false (by have:=V.o;omega)) ao.o;rw [W.o] at aK;exact ⟨i+1,j+1,by go_num,by go_num,by omega,by omega,aK⟩
   case measure=>simp [intOf];omega
  obtain rfl:j=a:=by omega
  obtain ⟨D,ak,aZ,aL,a0⟩:=c.o.row;obtain ⟨v,M⟩:=qB ((D.toList.take (i*7)++(Builtin.zeroCells Vt.cells (j-i)).toList++D.toList.drop (i*7+(j-i)*7)).toArray);have bh:∀ an,(Builtin.clear_ #[38] an #[.slice (zO g (i*7)) (j-i) (k-i)]).run Tryz.prog wr=.ok (.tuple #[]) (wr.setRow g v):=fun an=>by
   rw [M];exact TO wr g _ _ _ an D ak (by omega) (by omega)
  have ae:(b.take j)=b:=List.take_of_length_le (by have:=R.o;omega);have N:i=(b.filter fun x=>!decide (yA x<=t)).length:=by have:=c.o.len;rw [ae] at this;exact this
  have S:Zh (OG w (wr.setRow g v) (.returned (.slice (zO g 0) i k)) B (zO g 0) j k (b.filter fun x=>!decide (yA x<=t))):=by
   show OG _ _ _ _ _ _ _ _;have ai:=P8 (w':=wr.setRow g v) p.o (b1:=b.filter fun x=>!decide (yA x<=t)) (fun x h=>(List.mem_filter.1 h).1) (by rw [<-N];omega) ⟨v,setRow_heap wr g D _ _ _ ak,by
    have:=Xb (j-i);rw [Array.length_toList] at this;rw [M];simp [this];omega,by
    rw [<-N,M];show ((D.toList.take (i*7)++_)++_).take _=_;rw [List.append_assoc,List.take_left' (by rw [List.length_take,Array.length_toList];omega),aL,ae]⟩
    (fun x h O=>(setRow_other wr g x _ h).trans (c.o.oth x h O))
   refine ⟨by rw [<-N],ai,fun x h O=>(setRow_other wr g x _ (fun e=>O (by rw [e];rfl))).trans (c.o.oth x (fun e=>O (by rw [e];rfl)) h),Below.setRow c.o.below ao.o _⟩
  have bq:¬k=i:=by omega
  have bn:i<=k:=by omega
  have bm:(i:Int)<=j:=by omega
  clear ak aZ aL a0 M ae N;go_wp2;go_ret;exact S.o
end Go.Proofs.YtckpdfkobdgjeaaGreatDoor
