/- Several texts in one: Frame, FrameQ, FrameR, FrameB, BkA, FreshA. -/
import Derived.ProofKit
import Derived.OpenShut
import Derived.ShutString
import Derived.ChangeOld
import Derived.Below
import Derived.Deep.SlicePairs
import Derived.Deep.Slices
import Derived.Deep.Strs
import Derived.Lib.SliceRun
import Derived.Test.YtckpdfkobdgjeaaGreatDoorHRunsAll
import Derived.Test.YtckpdfkobdgjeaaGreatDoorRows
import Derived.Test.YtckpdfkobdgjeaaGreatDoorHTreeAll
import Derived.Test.YtckpdfkobdgjeaaGreatDoorHReqAll
import Derived.Test.YtckpdfkobdgjeaaGreatDoorHLoadAll
import Derived.Test.YtckpdfkobdgjeaaGreatDoorHAll0
namespace Go.Proofs.YtckpdfkobdgjeaaGreatDoor
set_option maxRecDepth 100000
set_option maxHeartbeats 1000000
open Go.ChangeShapes Go.WideShapes Go.ChangeAt Go.RowKit
open Go.RowKit
theorem own:ownKnob Tryz.prog.godebug=none:=by kernel_rfl
theorem PY:laidOutB Tryz.prog=true:=by kernel_rfl
theorem XP (b a j:Nat):((zA b a):Addr).add j=(zA b (a+j)):=by unfold Addr.add;split <;> simp_all
theorem Pq (a b:Nat->Value) (n i:Nat) (h:i<n):zp ((List.range n).map fun i=>(intOf (a i),intOf (b i))) i=intOf (a i)/\rN ((List.range n).map fun i=>(intOf (a i),intOf (b i))) i=intOf (b i):=by
 simp [zp,rN,List.getD,h]
theorem Ju {f:Type} {enc:TypeId×Value->f} {k:World} {u:Nat} {G:Nat->Bool} {w:Bool} {v:Nat} {cs:List Value} {a:Option Addr} {len cap:Nat} {x:DataW f×List MemPlace}
 (r:cs=[.slice a len cap]) (y:DataW.trod enc Tryz.prog k u G w v 25 cs=some x):∃ l,RunsIn k a len cap l:=by
 rcases Go.Deep.open_slice_pairs Tryz.underlying25 Tryz.underlying55 (by kernel_rfl) rfl rfl (by kernel_rfl) (by kernel_rfl) y with ⟨h,_⟩ | ⟨t,S,P,m,n,g,j,L,M,N,O,h,_,A,s,B,_,o⟩
 ·rw [r] at h;simp at h;obtain ⟨rfl,rfl,rfl⟩:=h;exact ⟨[],rfl,Nat.le_refl _,by simp,by simp,fun h=>by simp at h⟩
 ·rw [r] at h;simp at h;obtain ⟨rfl,rfl,rfl⟩:=h;have Q:len<=m:=by rw [B];split <;> omega
  simp only [maxLen] at s;refine ⟨(List.range len).map fun i=>(intOf (g i),intOf (j i)),by simp,A,by omega,s,fun R=>?_⟩;obtain ⟨b,D,H⟩:=t;have C:H=none:=by
   have:=World.cell?_spot (o 0 (by omega)).1;simpa [Addr.add] using this
  subst C;refine ⟨b,D,rfl,fun i z=>?_⟩;obtain ⟨c,c1,I,J⟩:=o i (by omega);obtain ⟨p,d,_,_⟩:=DataW.trod_int Tryz.underlying3 I;obtain ⟨q,e,_,_⟩:=DataW.trod_int Tryz.underlying3 J;simp at d e;obtain ⟨E,F⟩:=Pq g j len i z;rw [E,F,d,e];rw [d] at c;rw [e] at c1;rw [XP] at c c1;exact ⟨c,c1⟩
theorem VS {b:Type} {enc:TypeId×Value->b} {c:World} {e:Nat} {k:Nat->Bool} {g:Bool} {f:Nat} {cs:List Value} {x:DataW b×List MemPlace}
 (d:DataW.trod enc Tryz.prog c e k g f 25 cs=some x):∃ a len cap l,cs=[.slice a len cap]/\RunsIn c a len cap l:=by
 have j:∃ a len cap,cs=[.slice a len cap]:=by
  rcases Go.Deep.open_slice Tryz.underlying25 d with ⟨h,_⟩ | ⟨a,len,cap,_,_,_,_,h,_⟩
  ·exact ⟨none,0,0,h⟩
  exact ⟨some a,len,cap,h⟩
 obtain ⟨a,len,cap,h⟩:=j;obtain ⟨l,i⟩:=Ju h d;exact ⟨a,len,cap,l,h,i⟩
theorem T9 {l:List Value} (h:l.length=3):∃ a b c,l=[a,b,c]:=by
 match l,h with
 | [a,b,c],_=>exact ⟨a,b,c,rfl⟩
def FU (W:World) (b off i:Nat) (q:Qu):Prop :=
 (W.cell? (zA b (off+i*3))=some (.string q.name)/\W.cell? (zA b (off+i*3+1))=some (zI q.parent)/\W.cell? (zA b (off+i*3+2))=some (.slice q.ca q.cn q.cc))/\RunsIn W q.ca q.cn q.cc q.runs/\q.name.size<=9223372036854775807
theorem RW (f:Nat->Qu) (n i:Nat) (h:i<n):qu ((List.range n).map f) i=f i:=by simp [qu,List.getD,h]
theorem L1 {u:Type} {enc:TypeId×Value->u} {e:World} {M:Nat} {ag:Nat->Bool} {aa:Bool} {V:Nat} {cs:List Value} {a:Option Addr} {len cap:Nat} {x:DataW u×List MemPlace}
 (A:cs=[.slice a len cap]) (ab:DataW.trod enc Tryz.prog e M ag aa V 37 cs=some x):∃ l,QsIn e a len cap l:=by
 have am:Inhabited Qu:=⟨⟨ByteArray.empty,0,none,0,0,[]⟩⟩;rcases Go.Deep.open_slice Tryz.underlying37 ab with ⟨h,_⟩ | ⟨v,ap,al,m,n,D,ak,h,_,B,t,ad,_,j⟩
 ·rw [A] at h;simp at h;obtain ⟨rfl,rfl,rfl⟩:=h;exact ⟨[],rfl,Nat.le_refl _,by simp,fun h=>by simp at h,fun i c=>by omega,fun i c=>by omega⟩
 ·rw [A] at h;simp at h;obtain ⟨rfl,rfl,rfl⟩:=h;have an:len<=m:=by rw [ad];split <;> omega
  simp only [maxLen] at t;have Z:Tryz.prog.cellsOf 66=3:=by kernel_rfl
  rw [Z] at j;by_cases ao:0<len
  ·have G:v.spot=none:=by
    obtain ⟨S,g,_⟩:=j 0 (by omega);obtain ⟨_,r,d⟩:=World.cells?_some g;have W:=d 0 (by omega);obtain ⟨ah,ai,aj,rfl⟩:=T9 r;have:=World.cell?_spot W;simpa [Addr.add] using this
   obtain ⟨b,H,aq⟩:=v;simp only at G;subst G;have U:∀ i,i<len->∃ q:Qu,FU e b H i q:=by
    intro i c;obtain ⟨S,g,X⟩:=j i (by omega);obtain ⟨_,r,d⟩:=World.cells?_some g;obtain ⟨ar,au,av,k,_,_,I,J,L⟩:=Go.Deep.trod_struct3 Tryz.underlying66 X;obtain ⟨ah,ai,aj,rfl⟩:=T9 r;have O:Tryz.prog.cellsOf 9=1:=(by kernel_rfl);have c3:Tryz.prog.cellsOf 3=1:=(by kernel_rfl);have N:Tryz.prog.cellsOf 25=1:=(by kernel_rfl);simp only [O,c3,N,List.drop_zero,List.drop_succ_cons,List.take_succ_cons,List.take_zero] at I J L;obtain ⟨s,F,_,ae⟩:=DataW.trod_string Tryz.underlying9 I;obtain ⟨p,C,_,_⟩:=DataW.trod_int Tryz.underlying3 J;obtain ⟨P,R,Q,af,E,Y⟩:=VS L;simp at F C E;subst F C E;have w:=d 0 (by omega);have y:=d 1 (by omega);have z:=d 2 (by omega);rw [XP,XP] at w y z;exact ⟨⟨s,p,P,R,Q,af⟩,⟨by simpa using w,by simpa using y,by simpa using z⟩,Y,ae⟩
   obtain ⟨f,o⟩:=Go.Deep.choose_lt U;refine ⟨(List.range len).map f,by simp,B,t,fun _=>⟨b,H,rfl,fun i c=>?_⟩,fun i c=>?_,fun i c=>?_⟩
   ·rw [RW f len i c];exact (o i c).1
   ·rw [RW f len i c];exact (o i c).2.1
   ·rw [RW f len i c];exact (o i c).2.2
  obtain rfl:len=0:=by omega
  exact ⟨[],rfl,B,t,fun h=>by simp at h,fun i c=>by omega,fun i c=>by omega⟩
theorem BksIn.take {w:World} {a:Option Addr} {n cap:Nat} {b:BL} (h:BksIn w a n cap b) {k:Nat} (l:k<=n):BksIn w a k cap (b.take k):=by
 have m:=h.len;have o:=h.le;have e:∀ i,i<k->bk (b.take k) i=bk b i:=fun i c=>by
  unfold bk;simp only [List.getD,List.getElem?_take];rw [if_pos c]
 refine ⟨by simp;omega,by omega,h.capb,fun p=>?_,fun i c=>by rw [e i c];exact h.rqs i (by omega),fun i c=>by rw [e i c];exact h.bites i (by omega)⟩;obtain ⟨d,f,g,j⟩:=h.cells (by omega);exact ⟨d,f,g,fun i c=>by rw [e i c];exact j i (by omega)⟩
theorem BksIn.drop {w:World} {c a n cap:Nat} {b:BL} (h:BksIn w (zO c a) n cap b) {k:Nat} (m:k<=n):BksIn w (zO c (a+k*7)) (n-k) (cap-k) (b.drop k):=by
 have o:=h.len;have p:=h.le;have e:∀ i,bk (b.drop k) i=bk b (k+i):=fun i=>by
  unfold bk;simp only [List.getD,List.getElem?_drop]
 refine ⟨by simp;omega,by omega,by have:=h.capb;omega,fun q=>?_,fun i d=>by rw [e i];exact h.rqs _ (by omega),fun i d=>by rw [e i];exact h.bites _ (by omega)⟩;obtain ⟨j,l,f,g⟩:=h.cells (by omega);cases f
 refine ⟨c,a+k*7,rfl,fun i d=>?_⟩;rw [e i];have:=g (k+i) (by omega);rw [show a+(k+i)*7=a+k*7+i*7 from by omega] at this;exact this
def zx (x:Bk):List Value:=[zI x.id,zI x.rq.queue,zI x.rq.fr,zI x.rq.un,zI x.rq.kind,.slice x.rq.pa x.rq.pn x.rq.pc,.slice x.ba x.bn x.bc]
def ze:BL->List Value
 | []=>[]
 | x::l=>zx x++ze l
theorem zE:∀ l:BL,(ze l).length=l.length*7
 | []=>rfl
 | x::l=>by simp only [ze,List.length_append,zE l,List.length_cons,zx];simp;omega
theorem xw:∀ a b:BL,ze (a++b)=ze a++ze b
 | [],b=>rfl
 | x::a,b=>by rw [List.cons_append,ze,xw a b,ze,List.append_assoc]
theorem y7:∀ (l:BL),∀ a∈ze l,a.oneCell'=true
 | [],a,h=>by simp [ze] at h
 | x::l,a,h=>by
  rcases List.mem_append.1 h with h | h
  ·simp only [zx,List.mem_cons,List.not_mem_nil,or_false] at h;rcases h with rfl | rfl | rfl | rfl | rfl | rfl | rfl <;> rfl
  exact y7 l a h
theorem Za:∀ (l:BL) (i k:Nat),i<l.length->k<7->(ze l)[i*7+k]?=(zx (bk l i))[k]?
 | [],i,k,h,_=>by simp at h
 | x::l,0,k,_,hk=>by
  rw [ze,List.getElem?_append_left (by simp [zx];omega),Nat.zero_mul,Nat.zero_add];rfl
 | x::l,i+1,k,h,hk=>by
  have:=Za l i k (by simpa using h) hk;rw [ze,List.getElem?_append_right (by simp [zx];omega),show (i+1)*7+k-(zx x).length=i*7+k from by simp [zx];omega,this];rfl
theorem BksIn.list {w:World} {d f n cap:Nat} {l:BL} (h:BksIn w (zO d f) n cap l):∀ j c,(ze l)[j]?=some c->w.cell? (zA d (f+j))=some c:=by
 intro j c a;have u:j<l.length*7:=by
  have:=(List.getElem?_eq_some_iff.1 a).1;rwa [zE] at this
 have r:j / 7<l.length:=by omega
 have b:j % 7<7:=by omega
 have hn:=h.len;obtain ⟨t,v,e,q⟩:=h.cells (by omega);injection e with e;injection e with o p;subst o;subst p;obtain ⟨i,c1,c2,c3,c4,c5,k⟩:=q (j / 7) (by omega);have g:j=j / 7*7+j % 7:=by omega
 rw [g,Za l _ _ r b] at a;rw [g];obtain ⟨m,s⟩:=qA (j % 7);rw [s] at a b ⊢;rw [<-Nat.add_assoc]
 match m,b with
 | 0,_=>simp [zx] at a;rw [<-a];exact i
 | 1,_=>simp [zx] at a;rw [<-a];exact c1
 | 2,_=>simp [zx] at a;rw [<-a];exact c2
 | 3,_=>simp [zx] at a;rw [<-a];exact c3
 | 4,_=>simp [zx] at a;rw [<-a];exact c4
 | 5,_=>simp [zx] at a;rw [<-a];exact c5
 | 6,_=>simp [zx] at a;rw [<-a];exact k
 | m+7,b=>omega
theorem zT {w w':World} {B t s n:Nat} {v:Value} {a:List Value} (h:w.ownsRow B t s v n a) (d:Below w.heap.size w w'):w'.ownsRow B t s v n a:=by
 refine ⟨h.1,?_⟩;rcases h.2 with hn | ⟨g,cap,b,rfl,c,hg,rest⟩
 ·exact .inl hn
 refine .inr ⟨g,cap,b,rfl,c,?_,rest⟩;rw [d.block g (Array.getElem?_eq_some_iff.1 hg).1];exact hg
theorem Gw {w:World} {B:Nat} {v:Value} {l:BL} (h:w.ownsRow B 60 7 v l.length (ze l)) (t:∀ x∈l,zH w x.rq) (o:∀ x∈l,RunsIn w x.ba x.bn x.bc x.bs) :
 ∃ a cap,v=.slice a l.length cap/\BksIn w a l.length cap l/\∀ b f,a=zO b f->B<=b/\f=0:=by
 rcases h.2 with ⟨rfl,hn⟩ | ⟨g,cap,m,rfl,z,hg,q,r,A,u⟩
 ·refine ⟨none,0,by rw [hn],⟨rfl,by omega,by omega,fun s=>by omega,fun i c=>by omega,fun i c=>by omega⟩,fun b f e=>by cases e⟩
 ·refine ⟨zO g 0,cap,rfl,⟨rfl,q,by simpa [maxLen] using r,fun s=>⟨g,0,rfl,fun i c=>?_⟩,fun i c=>t _ (yx c),fun i c=>o _ (yx c)⟩,fun b f e=>by
   injection e with e;injection e with y n;exact ⟨by omega,n.symm⟩⟩
  have key:∀ k j,k<7->(zx (bk l i))[k]?=some j->w.cell? (zA g (0+i*7+k))=some j:=by
   intro k j p d;rw [<-Za l i k c p,<-u,List.getElem?_take] at d;rw [Nat.zero_add]
   split at d
   ·rw [cell_of_row w g (i*7+k) m _ (0,0) hg];simpa using d
   cases d
  exact ⟨key 0 _ (by omega) rfl,key 1 _ (by omega) rfl,key 2 _ (by omega) rfl,key 3 _ (by omega) rfl,key 4 _ (by omega) rfl,key 5 _ (by omega) rfl,key 6 _ (by omega) rfl⟩
theorem Z5:(Tryz.prog.info? 60).map (fun i=>(i.zero,i.size,i.bytes))=some (some (.agg #[zI 0,zI 0,zI 0,zI 0,zI 0,zN,zN]),7,88):=by kernel_rfl
theorem Ze {P:Program} {o:Oper} {a:Operand->Value} {w w':World} {b:Value} (s x:Operand) (t:TypeId) (c:o.op=.call { callee:=.builtin .append,args:=#[s,x],argTypes:=#[t,t] }) (v y:Value) (e:a s=v) (f:a x=y)
 (d:(Builtin.append_ #[t,t] o.type #[v,y]).run P w=.ok b w'):(execOp a o).run P w=.ok (.value b) w':=by
 unfold execOp;simp only [c,resolve,invoke,builtin,Sem.run_bind,Sem.run_pure,Result.andThen_ok,List.map_toArray,List.map_cons,List.map_nil,e,f,d]
theorem YE:∀ (l:zd),∀ a∈cellsOf l,a.oneCell'=true
 | [],a,h=>by simp [cellsOf] at h
 | r::l,a,h=>by
  simp only [cellsOf,List.mem_cons] at h;rcases h with rfl | rfl | h
  ·rfl
  ·rfl
  exact YE l a h
theorem RunsIn.list {w:World} {f:Addr} {n cap:Nat} {l:zd} (h:RunsIn w (some f) n cap l):∀ j d,(cellsOf l)[j]?=some d->w.cell? (f.add j)=some d:=by
 intro j d a;have k:j<l.length*2:=by
  have:=(List.getElem?_eq_some_iff.1 a).1;rwa [xL] at this
 have hn:=h.len;obtain ⟨b,m,e,i⟩:=h.cells (by omega);injection e with e;subst e;obtain ⟨g,c1⟩:=i (j / 2) (by omega);rw [Addr.add_lit];have c:j % 2=0\/j % 2=1:=by omega
 rcases c with c | c
 ·have e:j=j / 2*2:=by omega
  rw [e,xr l _ (by omega)] at a;rw [e,<-a];exact g
 have e:j=j / 2*2+1:=by omega
 rw [e,xJ l _ (by omega)] at a;rw [e,<-a];exact c1
theorem Yq {w:World} {B t:Nat} {v:Value} {l:zd} (h:w.ownsRow B t 2 v l.length (cellsOf l)) (x:l.length<=1000):∃ a cap,v=.slice a l.length cap/\RunsIn w a l.length cap l/\∀ b d,a=zO b d->B<=b/\d=0:=by
 rcases h.2 with ⟨rfl,hn⟩ | ⟨g,cap,m,rfl,u,hg,o,p,y,r⟩
 ·refine ⟨none,0,by rw [hn],⟨rfl,by omega,by omega,by omega,fun q=>by omega⟩,fun b d e=>by cases e⟩
 refine ⟨zO g 0,cap,rfl,⟨rfl,o,by omega,by simpa [maxLen] using p,fun q=>⟨g,0,rfl,fun i j=>?_⟩⟩,fun b d e=>by
  injection e with e;injection e with s n;exact ⟨by omega,n.symm⟩⟩
 have key:∀ k f,(cellsOf l)[k]?=some f->w.cell? (zA g k)=some f:=by
  intro k f c;rw [<-r,List.getElem?_take] at c
  split at c
  ·rw [cell_of_row w g k m _ (0,0) hg];simpa using c
  cases c
 exact ⟨by rw [Nat.zero_add];exact key _ _ (xr l i j),by rw [Nat.zero_add];exact key _ _ (xJ l i j)⟩
theorem Qk (w:World) (a:Option Addr) (n c:Nat) (b:List Value) (B:b.length=n*2) (hn:n<=1000) (p:∀ f,a=some f->∀ j d,b[j]?=some d->w.cell? (f.add j)=some d) (v:∀ d∈b,d.oneCell'=true) (m:a=none->n=0) :
 zC 94 #[.slice a n c] w fun e w'=>∃ g,e=.returned g/\w'.ownsRow w.heap.size 55 2 g n b/\Below w.heap.size w w':=by
 have E:∀ (w:World) (a:Option Addr) (n c l h:Nat),(binOp .eql 25 (.slice a n c) (.slice none l h)).run Tryz.prog w=.ok (.bool a.isNone) w:=fun w a n c l h=>Lib.run_eql_slice_nil w _ _ a n c l h Tryz.underlying25;obtain ⟨D,y,e⟩:=Option.map_eq_some_iff.1 (show (Tryz.prog.info? 55).map (fun i=>(i.zero,i.size,i.bytes))=some (some (.agg #[zI 0,zI 0]),2,16) from by kernel_rfl);simp only [Prod.mk.injEq] at e;obtain ⟨s,t,u⟩:=e;cases a with
 | none =>
  obtain rfl:=m rfl;have q:b=[]:=List.length_eq_zero_iff.1 (by omega);subst q;go_enter Tryz.func94,Tryz.ntmps94;go_wp2;go_ret;exact ⟨_,rfl,World.ownsRow_nil _ _ _ _,Below.refl _ _⟩
 | some f =>
  have r:=zh (p f rfl);clear p m;go_enter Tryz.func94,Tryz.ntmps94;go_wp2_with (at_builtin;refine wpList_append_own _ rfl _ _ 25 rfl w.heap.size 55 D _ 2 16 Tryz.underlying25 y s t u (by rfl) (by omega) _ _ _ rfl (World.ownsRow_made w #[] 0 (Nat.le_refl _) (Nat.zero_le _) (by simp)) f n c b rfl ?qc1 ?qc2 ?qc3 ?qc4 ?qc5 ?qc6 ?_)
  case qc1=>exact B
  case qc2 =>
   intro j d z;exact cell_later (zr _ _) (r.o j d z)
  case qc3=>exact v
  case qc4=>simp only [maxLen];omega
  case qc5=>omega
  case qc6=>simp
  intro g F C x q;go_wp2;go_ret;refine ⟨g,rfl,by simpa using C,?_⟩;exact ((Below.refl _ w).alloc (Nat.le_refl _) _).grown x (by simp) (by intro k A;simp [Value.ownBlock] at A;omega)
theorem Qi (w:World) (a:Option Addr) (n cap:Nat) (l:zd) (h:RunsIn w a n cap l) (hn:n<=1000) :
 zC 94 #[.slice a n cap] w fun e w'=>∃ c d,e=.returned (.slice c n d)/\RunsIn w' c n d l/\Below w.heap.size w w'/\∀ b f,c=zO b f->w.heap.size<=b:=by
 refine (Qk w a n cap (cellsOf l) (by rw [xL,h.len]) hn ?_ (YE l) ?_).mono ?_
 ·rintro q rfl j p o;exact h.list j p o
 ·rintro rfl;by_cases e:0<n
  ·obtain ⟨b,f,e,_⟩:=h.cells e;cases e
  omega
 ·rintro e w' ⟨r,rfl,k,m⟩;obtain ⟨c,d,rfl,g,i⟩:=Yq (l:=l) (h.len ▸ k) (by have:=h.len;omega);exact ⟨c,d,by rw [h.len],by rw [h.len];exact g,m,fun b f e=>(i b f e).1⟩
theorem Se (w:World) (a:Option Addr) (n c:Nat) (b:List Value) (B:b.length=n*2) (hn:n<=1000) (p:∀ f,a=some f->∀ j d,b[j]?=some d->w.cell? (f.add j)=some d) (v:∀ d∈b,d.oneCell'=true) (m:a=none->n=0) :
 zC 142 #[.slice a n c] w fun e w'=>∃ g,e=.returned g/\w'.ownsRow w.heap.size 64 2 g n b/\Below w.heap.size w w':=by
 have E:∀ (w:World) (a:Option Addr) (n c l h:Nat),(binOp .eql 22 (.slice a n c) (.slice none l h)).run Tryz.prog w=.ok (.bool a.isNone) w:=fun w a n c l h=>Lib.run_eql_slice_nil w _ _ a n c l h Tryz.underlying22;obtain ⟨D,y,e⟩:=Option.map_eq_some_iff.1 (show (Tryz.prog.info? 64).map (fun i=>(i.zero,i.size,i.bytes))=some (some (.agg #[zI 0,zI 0]),2,16) from by kernel_rfl);simp only [Prod.mk.injEq] at e;obtain ⟨s,t,u⟩:=e;cases a with
 | none =>
  obtain rfl:=m rfl;have q:b=[]:=List.length_eq_zero_iff.1 (by omega);subst q;go_enter Tryz.func142,Tryz.ntmps142;go_wp2;go_ret;exact ⟨_,rfl,World.ownsRow_nil _ _ _ _,Below.refl _ _⟩
 | some f =>
  have r:=zh (p f rfl);clear p m;go_enter Tryz.func142,Tryz.ntmps142;go_wp2_with (at_builtin;refine wpList_append_own _ rfl _ _ 22 rfl w.heap.size 64 D _ 2 16 Tryz.underlying22 y s t u (by rfl) (by omega) _ _ _ rfl (World.ownsRow_made w #[] 0 (Nat.le_refl _) (Nat.zero_le _) (by simp)) f n c b rfl ?qc1 ?qc2 ?qc3 ?qc4 ?qc5 ?qc6 ?_)
  case qc1=>exact B
  case qc2 =>
   intro j d z;exact cell_later (zr _ _) (r.o j d z)
  case qc3=>exact v
  case qc4=>simp only [maxLen];omega
  case qc5=>omega
  case qc6=>simp
  intro g F C x q;go_wp2;go_ret;refine ⟨g,rfl,by simpa using C,?_⟩;exact ((Below.refl _ w).alloc (Nat.le_refl _) _).grown x (by simp) (by intro k A;simp [Value.ownBlock] at A;omega)
theorem Sd (w:World) (a:Option Addr) (n cap:Nat) (l:zd) (h:RunsIn w a n cap l) (hn:n<=1000) :
 zC 142 #[.slice a n cap] w fun e w'=>∃ c d,e=.returned (.slice c n d)/\RunsIn w' c n d l/\Below w.heap.size w w'/\∀ b f,c=zO b f->w.heap.size<=b:=by
 refine (Se w a n cap (cellsOf l) (by rw [xL,h.len]) hn ?_ (YE l) ?_).mono ?_
 ·rintro q rfl j p o;exact h.list j p o
 ·rintro rfl;by_cases e:0<n
  ·obtain ⟨b,f,e,_⟩:=h.cells e;cases e
  omega
 ·rintro e w' ⟨r,rfl,k,m⟩;obtain ⟨c,d,rfl,g,i⟩:=Yq (l:=l) (h.len ▸ k) (by have:=h.len;omega);exact ⟨c,d,by rw [h.len],by rw [h.len];exact g,m,fun b f e=>(i b f e).1⟩
theorem Sx (w:World) (a:Option Addr) (n c:Nat) (b:List Value) (B:b.length=n*2) (hn:n<=1000) (p:∀ f,a=some f->∀ j d,b[j]?=some d->w.cell? (f.add j)=some d) (v:∀ d∈b,d.oneCell'=true) (m:a=none->n=0) :
 zC 141 #[.slice a n c] w fun e w'=>∃ g,e=.returned g/\w'.ownsRow w.heap.size 62 2 g n b/\Below w.heap.size w w':=by
 have E:∀ (w:World) (a:Option Addr) (n c l h:Nat),(binOp .eql 58 (.slice a n c) (.slice none l h)).run Tryz.prog w=.ok (.bool a.isNone) w:=fun w a n c l h=>Lib.run_eql_slice_nil w _ _ a n c l h Tryz.underlying58;obtain ⟨D,y,e⟩:=Option.map_eq_some_iff.1 (show (Tryz.prog.info? 62).map (fun i=>(i.zero,i.size,i.bytes))=some (some (.agg #[zI 0,zI 0]),2,16) from by kernel_rfl);simp only [Prod.mk.injEq] at e;obtain ⟨s,t,u⟩:=e;cases a with
 | none =>
  obtain rfl:=m rfl;have q:b=[]:=List.length_eq_zero_iff.1 (by omega);subst q;go_enter Tryz.func141,Tryz.ntmps141;go_wp2;go_ret;exact ⟨_,rfl,World.ownsRow_nil _ _ _ _,Below.refl _ _⟩
 | some f =>
  have r:=zh (p f rfl);clear p m;go_enter Tryz.func141,Tryz.ntmps141;go_wp2_with (at_builtin;refine wpList_append_own _ rfl _ _ 58 rfl w.heap.size 62 D _ 2 16 Tryz.underlying58 y s t u (by rfl) (by omega) _ _ _ rfl (World.ownsRow_made w #[] 0 (Nat.le_refl _) (Nat.zero_le _) (by simp)) f n c b rfl ?qc1 ?qc2 ?qc3 ?qc4 ?qc5 ?qc6 ?_)
  case qc1=>exact B
  case qc2 =>
   intro j d z;exact cell_later (zr _ _) (r.o j d z)
  case qc3=>exact v
  case qc4=>simp only [maxLen];omega
  case qc5=>omega
  case qc6=>simp
  intro g F C x q;go_wp2;go_ret;refine ⟨g,rfl,by simpa using C,?_⟩;exact ((Below.refl _ w).alloc (Nat.le_refl _) _).grown x (by simp) (by intro k A;simp [Value.ownBlock] at A;omega)
theorem Sw (w:World) (a:Option Addr) (n cap:Nat) (l:zd) (h:RunsIn w a n cap l) (hn:n<=1000) :
 zC 141 #[.slice a n cap] w fun e w'=>∃ c d,e=.returned (.slice c n d)/\RunsIn w' c n d l/\Below w.heap.size w w'/\∀ b f,c=zO b f->w.heap.size<=b:=by
 refine (Sx w a n cap (cellsOf l) (by rw [xL,h.len]) hn ?_ (YE l) ?_).mono ?_
 ·rintro q rfl j p o;exact h.list j p o
 ·rintro rfl;by_cases e:0<n
  ·obtain ⟨b,f,e,_⟩:=h.cells e;cases e
  omega
 ·rintro e w' ⟨r,rfl,k,m⟩;obtain ⟨c,d,rfl,g,i⟩:=Yq (l:=l) (h.len ▸ k) (by have:=h.len;omega);exact ⟨c,d,by rw [h.len],by rw [h.len];exact g,m,fun b f e=>(i b f e).1⟩
def wH (q:Qu):List Value:=[.string q.name,zI q.parent,.slice q.ca q.cn q.cc]
def yE:QL->List Value
 | []=>[]
 | x::l=>wH x++yE l
theorem Xp:∀ l:QL,(yE l).length=l.length*3
 | []=>rfl
 | x::l=>by simp only [yE,List.length_append,Xp l,List.length_cons,wH];simp;omega
theorem Vf:∀ (l:QL),∀ a∈yE l,a.oneCell'=true
 | [],a,h=>by simp [yE] at h
 | x::l,a,h=>by
  rcases List.mem_append.1 h with h | h
  ·simp only [wH,List.mem_cons,List.not_mem_nil,or_false] at h;rcases h with rfl | rfl | rfl <;> rfl
  exact Vf l a h
theorem Ys:∀ (l:QL) (i k:Nat),i<l.length->k<3->(yE l)[i*3+k]?=(wH (qu l i))[k]?
 | [],i,k,h,_=>by simp at h
 | x::l,0,k,_,hk=>by
  rw [yE,List.getElem?_append_left (by simp [wH];omega),Nat.zero_mul,Nat.zero_add];rfl
 | x::l,i+1,k,h,hk=>by
  have:=Ys l i k (by simpa using h) hk;rw [yE,List.getElem?_append_right (by simp [wH];omega),show (i+1)*3+k-(wH x).length=i*3+k from by simp [wH];omega,this];rfl
theorem QsIn.list {w:World} {d:Addr} {n cap:Nat} {l:QL} (h:QsIn w (some d) n cap l):∀ j c,(yE l)[j]?=some c->w.cell? (d.add j)=some c:=by
 intro j c a;have q:j<l.length*3:=by
  have:=(List.getElem?_eq_some_iff.1 a).1;rwa [Xp] at this
 have k:j / 3<l.length:=by omega
 have b:j % 3<3:=by omega
 have hn:=h.len;obtain ⟨p,r,e,i⟩:=h.cells (by omega);injection e with e;subst e;obtain ⟨g,c1,c2⟩:=i (j / 3) (by omega);have f:j=j / 3*3+j % 3:=by omega
 rw [f,Ys l _ _ k b] at a;rw [Addr.add_lit,f];obtain ⟨m,o⟩:=qA (j % 3);rw [o] at a b ⊢;rw [<-Nat.add_assoc]
 match m,b with
 | 0,_=>simp [wH] at a;rw [<-a];exact g
 | 1,_=>simp [wH] at a;rw [<-a];exact c1
 | 2,_=>simp [wH] at a;rw [<-a];exact c2
 | m+3,b=>omega
theorem Fr {w:World} {B:Nat} {v:Value} {l:QL} (h:w.ownsRow B 66 3 v l.length (yE l)) (o:∀ i,i<l.length->RunsIn w (qu l i).ca (qu l i).cn (qu l i).cc (qu l i).runs) (t:∀ i,i<l.length->(qu l i).name.size<=9223372036854775807) :
 ∃ a cap,v=.slice a l.length cap/\QsIn w a l.length cap l/\∀ b d,a=zO b d->B<=b/\d=0:=by
 rcases h.2 with ⟨rfl,hn⟩ | ⟨g,cap,m,rfl,y,hg,q,r,z,u⟩
 ·refine ⟨none,0,by rw [hn],⟨rfl,by omega,by omega,fun s=>by omega,fun i f=>by omega,fun i f=>by omega⟩,fun b d e=>by cases e⟩
 ·refine ⟨zO g 0,cap,rfl,⟨rfl,q,by simpa [maxLen] using r,fun s=>⟨g,0,rfl,fun i f=>?_⟩,o,t⟩,fun b d e=>by
   injection e with e;injection e with x n;exact ⟨by omega,n.symm⟩⟩
  have key:∀ k j,k<3->(wH (qu l i))[k]?=some j->w.cell? (zA g (0+i*3+k))=some j:=by
   intro k j p c;rw [<-Ys l i k f p,<-u,List.getElem?_take] at c;rw [Nat.zero_add]
   split at c
   ·rw [cell_of_row w g (i*3+k) m _ (0,0) hg];simpa using c
   cases c
  exact ⟨key 0 _ (by omega) rfl,key 1 _ (by omega) rfl,key 2 _ (by omega) rfl⟩
theorem OE (w:World) (a:Option Addr) (n c:Nat) (b:List Value) (B:b.length=n*3) (hn:n<=1000) (p:∀ f,a=some f->∀ j d,b[j]?=some d->w.cell? (f.add j)=some d) (v:∀ d∈b,d.oneCell'=true) (m:a=none->n=0) :
 zC 127 #[.slice a n c] w fun e w'=>∃ g,e=.returned g/\w'.ownsRow w.heap.size 66 3 g n b/\Below w.heap.size w w':=by
 have E:∀ (w:World) (a:Option Addr) (n c l h:Nat),(binOp .eql 37 (.slice a n c) (.slice none l h)).run Tryz.prog w=.ok (.bool a.isNone) w:=fun w a n c l h=>Lib.run_eql_slice_nil w _ _ a n c l h Tryz.underlying37;obtain ⟨D,y,e⟩:=Option.map_eq_some_iff.1 (show (Tryz.prog.info? 66).map (fun i=>(i.zero,i.size,i.bytes))=some (some (.agg #[.string ⟨#[]⟩,zI 0,zN]),3,48) from by kernel_rfl);simp only [Prod.mk.injEq] at e;obtain ⟨s,t,u⟩:=e;cases a with
 | none =>
  obtain rfl:=m rfl;have q:b=[]:=List.length_eq_zero_iff.1 (by omega);subst q;go_enter Tryz.func127,Tryz.ntmps127;go_wp2;go_ret;exact ⟨_,rfl,World.ownsRow_nil _ _ _ _,Below.refl _ _⟩
 | some f =>
  have r:=zh (p f rfl);clear p m;go_enter Tryz.func127,Tryz.ntmps127;go_wp2_with (at_builtin;refine wpList_append_own _ rfl _ _ 37 rfl w.heap.size 66 D _ 3 48 Tryz.underlying37 y s t u (by rfl) (by omega) _ _ _ rfl (World.ownsRow_made w #[] 0 (Nat.le_refl _) (Nat.zero_le _) (by simp)) f n c b rfl ?qc1 ?qc2 ?qc3 ?qc4 ?qc5 ?qc6 ?_)
  case qc1=>exact B
  case qc2 =>
   intro j d z;exact cell_later (zr _ _) (r.o j d z)
  case qc3=>exact v
  case qc4=>simp only [maxLen];omega
  case qc5=>omega
  case qc6=>simp
  intro g F C x q;go_wp2;go_ret;refine ⟨g,rfl,by simpa using C,?_⟩;exact ((Below.refl _ w).alloc (Nat.le_refl _) _).grown x (by simp) (by intro k A;simp [Value.ownBlock] at A;omega)
theorem PE (w:World) (a:Option Addr) (n c:Nat) (b:List Value) (B:b.length=n*7) (hn:n<=1000) (p:∀ f,a=some f->∀ j d,b[j]?=some d->w.cell? (f.add j)=some d) (v:∀ d∈b,d.oneCell'=true) (m:a=none->n=0) :
 zC 140 #[.slice a n c] w fun e w'=>∃ g,e=.returned g/\w'.ownsRow w.heap.size 60 7 g n b/\Below w.heap.size w w':=by
 have E:∀ (w:World) (a:Option Addr) (n c l h:Nat),(binOp .eql 38 (.slice a n c) (.slice none l h)).run Tryz.prog w=.ok (.bool a.isNone) w:=fun w a n c l h=>Lib.run_eql_slice_nil w _ _ a n c l h Tryz.underlying38;obtain ⟨D,y,e⟩:=Option.map_eq_some_iff.1 (show (Tryz.prog.info? 60).map (fun i=>(i.zero,i.size,i.bytes))=some (some (.agg #[zI 0,zI 0,zI 0,zI 0,zI 0,zN,zN]),7,88) from by kernel_rfl);simp only [Prod.mk.injEq] at e;obtain ⟨s,t,u⟩:=e;cases a with
 | none =>
  obtain rfl:=m rfl;have q:b=[]:=List.length_eq_zero_iff.1 (by omega);subst q;go_enter Tryz.func140,Tryz.ntmps140;go_wp2;go_ret;exact ⟨_,rfl,World.ownsRow_nil _ _ _ _,Below.refl _ _⟩
 | some f =>
  have r:=zh (p f rfl);clear p m;go_enter Tryz.func140,Tryz.ntmps140;go_wp2_with (at_builtin;refine wpList_append_own _ rfl _ _ 38 rfl w.heap.size 60 D _ 7 88 Tryz.underlying38 y s t u (by rfl) (by omega) _ _ _ rfl (World.ownsRow_made w #[] 0 (Nat.le_refl _) (Nat.zero_le _) (by simp)) f n c b rfl ?qc1 ?qc2 ?qc3 ?qc4 ?qc5 ?qc6 ?_)
  case qc1=>exact B
  case qc2 =>
   intro j d z;exact cell_later (zr _ _) (r.o j d z)
  case qc3=>exact v
  case qc4=>simp only [maxLen];omega
  case qc5=>omega
  case qc6=>simp
  intro g F C x q;go_wp2;go_ret;refine ⟨g,rfl,by simpa using C,?_⟩;exact ((Below.refl _ w).alloc (Nat.le_refl _) _).grown x (by simp) (by intro k A;simp [Value.ownBlock] at A;omega)
end Go.Proofs.YtckpdfkobdgjeaaGreatDoor
