/- What is wanted besides of texts that lie beneath. -/
import Derived.Test.YtckpdfkobdgjeaaGreatDoorHAll1
import Derived.Test.YtckpdfkobdgjeaaGreatDoorHAll3
import Derived.Test.YtckpdfkobdgjeaaGreatDoorHLogK
namespace Go.Proofs.YtckpdfkobdgjeaaGreatDoor
open Go.ChangeShapes Go.WideShapes Go.ChangeAt Go.RowKit
open Go.RowKit
set_option maxRecDepth 100000
set_option maxHeartbeats 1000000
theorem NM {f:Type} {enc:TypeId×Value->f} {k:World} {u:Nat} {G:Nat->Bool} {w:Bool} {v:Nat} {cs:List Value} {a:Option Addr} {len cap:Nat} {x:DataW f×List MemPlace}
 (r:cs=[.slice a len cap]) (y:DataW.trod enc Tryz.prog k u G w v 22 cs=some x):∃ l,RunsIn k a len cap l:=by
 rcases Go.Deep.open_slice_pairs Tryz.underlying22 Tryz.underlying64 (by kernel_rfl) rfl rfl (by kernel_rfl) (by kernel_rfl) y with ⟨h,_⟩ | ⟨t,S,P,m,n,g,j,L,M,N,O,h,_,A,s,B,_,o⟩
 ·rw [r] at h;simp at h;obtain ⟨rfl,rfl,rfl⟩:=h;exact ⟨[],rfl,Nat.le_refl _,by simp,by simp,fun h=>by simp at h⟩
 ·rw [r] at h;simp at h;obtain ⟨rfl,rfl,rfl⟩:=h;have Q:len<=m:=by rw [B];split <;> omega
  simp only [maxLen] at s;refine ⟨(List.range len).map fun i=>(intOf (g i),intOf (j i)),by simp,A,by omega,s,fun R=>?_⟩;obtain ⟨b,D,H⟩:=t;have C:H=none:=by
   have:=World.cell?_spot (o 0 (by omega)).1;simpa [Addr.add] using this
  subst C;refine ⟨b,D,rfl,fun i z=>?_⟩;obtain ⟨c,c1,I,J⟩:=o i (by omega);obtain ⟨p,d,_,_⟩:=DataW.trod_int Tryz.underlying3 I;obtain ⟨q,e,_,_⟩:=DataW.trod_int Tryz.underlying3 J;simp at d e;obtain ⟨E,F⟩:=Pq g j len i z;rw [E,F,d,e];rw [d] at c;rw [e] at c1;rw [XP] at c c1;exact ⟨c,c1⟩
theorem Sl {b:Type} {enc:TypeId×Value->b} {c:World} {e:Nat} {k:Nat->Bool} {g:Bool} {f:Nat} {cs:List Value} {x:DataW b×List MemPlace}
 (d:DataW.trod enc Tryz.prog c e k g f 22 cs=some x):∃ a len cap l,cs=[.slice a len cap]/\RunsIn c a len cap l:=by
 have j:∃ a len cap,cs=[.slice a len cap]:=by
  rcases Go.Deep.open_slice Tryz.underlying22 d with ⟨h,_⟩ | ⟨a,len,cap,_,_,_,_,h,_⟩
  ·exact ⟨none,0,0,h⟩
  exact ⟨some a,len,cap,h⟩
 obtain ⟨a,len,cap,h⟩:=j;obtain ⟨l,i⟩:=NM h d;exact ⟨a,len,cap,l,h,i⟩
theorem Ot {P:Program} {q:Type} {enc:TypeId×Value->q} {w:World} {a:Nat} {c:Nat->Bool} {b:Bool} {t:TypeId} {d e f g i:Field} {r:Nat} {cs:List Value} {x:DataW q×List MemPlace} (v:P.underlying t=some (.struct #[d,e,f,g,i])) (h:DataW.trod enc P w a c b r t cs=some x) :
 ∃ k l m o p n,cs.length=P.cellsOf t/\DataW.trod enc P w a c b n d.type ((cs.drop d.offset).take (P.cellsOf d.type))=some k /\
  DataW.trod enc P w a c b n e.type ((cs.drop e.offset).take (P.cellsOf e.type))=some l/\DataW.trod enc P w a c b n f.type ((cs.drop f.offset).take (P.cellsOf f.type))=some m /\
  DataW.trod enc P w a c b n g.type ((cs.drop g.offset).take (P.cellsOf g.type))=some o/\DataW.trod enc P w a c b n i.type ((cs.drop i.offset).take (P.cellsOf i.type))=some p:=by
 obtain ⟨y,n,_,rfl,s,u,j⟩:=DataW.trod_struct v h
 match y,u with
 | [k,l,m,o,p],_=>exact ⟨k,l,m,o,p,n,s,by simpa using j 0 d rfl,by simpa using j 1 e rfl,by simpa using j 2 f rfl,by simpa using j 3 g rfl,by simpa using j 4 i rfl⟩
theorem MY {l:List Value} (h:l.length=5):∃ a b c d e,l=[a,b,c,d,e]:=by
 match l,h with
 | [a,b,c,d,e],_=>exact ⟨a,b,c,d,e,rfl⟩
theorem GB {a:Type} {enc:TypeId×Value->a} {b:World} {s:Nat} {F:Nat->Bool} {y:Bool} {u:Nat} {cs:List Value} {x:DataW a×List MemPlace}
 (z:DataW.trod enc Tryz.prog b s F y u 24 cs=some x):∃ r:Rq,cs=[zI r.queue,zI r.fr,zI r.un,zI r.kind,.slice r.pa r.pn r.pc]/\zH b r:=by
 obtain ⟨M,N,O,P,Q,n,A,h,i,j,k,l⟩:=Ot Tryz.underlying24 z;have w:Tryz.prog.cellsOf 24=5:=by kernel_rfl
 obtain ⟨G,H,I,J,L,rfl⟩:=MY (A.trans w);have c3:Tryz.prog.cellsOf 3=1:=by kernel_rfl
 have t:Tryz.prog.cellsOf 22=1:=by kernel_rfl
 simp only [c3,t,List.drop_zero,List.drop_succ_cons,List.take_succ_cons,List.take_zero] at h i j k l;obtain ⟨m,c,_,_⟩:=DataW.trod_int Tryz.underlying3 h;obtain ⟨o,d,_,_⟩:=DataW.trod_int Tryz.underlying3 i;obtain ⟨p,e,_,_⟩:=DataW.trod_int Tryz.underlying3 j;obtain ⟨q,f,_,_⟩:=DataW.trod_int Tryz.underlying3 k;obtain ⟨B,E,C,D,g,v⟩:=Sl l;simp at c d e f g;subst c d e f g;exact ⟨⟨m,o,p,q,B,E,C,D⟩,rfl,v⟩
theorem Hn {x:Int} (h:(Lit.int .i64 x).wf=true):-9223372036854775808<=x/\x<=9223372036854775807:=by
 simp [Lit.wf,IntKind.min,IntKind.max,IntKind.signed,IntKind.bits] at h;exact h
def We (c:Int) (n:Nat):Nat:=if c<0 then ((-(c+1)) % n).toNat else (c % n).toNat
theorem Ks {c:Int} {n:Nat} (hn:0<n):We c n<n:=by
 have a:(0:Int)<n:=by omega
 have b:¬(n:Int)=0:=by omega
 unfold We
 split
 ·have:=Int.emod_lt_of_pos (-(c+1)) a;have:=Int.emod_nonneg (-(c+1)) b;omega
 have:=Int.emod_lt_of_pos c a;have:=Int.emod_nonneg c b;omega
theorem O5 {t b:ByteArray} {k:Nat} (h:k<t.size):byt (t++b) k=byt t k:=by
 unfold byt;rw [dif_pos h,dif_pos (by rw [ByteArray.size_append];omega),ByteArray.getElem_append_left h]
theorem QU (t b:ByteArray) (j:Nat):byt (t++b) (t.size+j)=byt b j:=by
 unfold byt;by_cases h:j<b.size
 ·rw [dif_pos h,dif_pos (by rw [ByteArray.size_append];omega),ByteArray.getElem_append_right (by omega)];simp
 rw [dif_neg h,dif_neg (by rw [ByteArray.size_append];omega)]
theorem YN {t t':ByteArray} {k d:Nat} (m:whole t k) (h:∀ j,k+j<t.size->byt t' (k+d+j)=byt t (k+j)) (s:t.size+d<=t'.size):whole t' (k+d)/\xx t' (k+d)=xx t k+d/\SW t' (k+d)=SW t k:=by
 obtain ⟨o,p,u,q,v⟩:=m;have b:=h 6 o;have f:pN t' (k+d)=pN t k:=by unfold pN;rw [b]
 have a:pA t' (k+d)=pA t k+d:=by unfold pA;rw [f];omega
 have g:pA t k=k+(7+2*pN t k):=by unfold pA;omega
 have c:byt t' (pA t k+d)=byt t (pA t k):=by
  have:=h (7+2*pN t k) (by omega);rw [<-g] at this;rw [<-this,g]
  congr 1
  omega
 have e:cN t' (k+d)=cN t k:=by unfold cN;rw [a,c]
 have i:xx t' (k+d)=xx t k+d:=by unfold xx;rw [a,e];omega
 have r:xx t k=pA t k+1+2*cN t k:=rfl;refine ⟨⟨by omega,by rw [b];exact p,by omega,by rw [a,c];exact q,by omega⟩,i,?_⟩;unfold SW;rw [f,e,a,show k+d=k+d+0 from rfl,h 0 (by omega),h 1 (by omega),h 2 (by omega),h 3 (by omega),h 4 (by omega),h 5 (by omega),
  RS (t:=t) (k:=k+7) (t':=t') (k':=k+d+0+7) (n:=pN t k) (fun j l=>by
   have:=h (7+j) (by omega);rw [show k+d+0+7+j=k+d+(7+j) by omega,show k+7+j=k+(7+j) by omega];exact this),
  RS (t:=t) (k:=pA t k+1) (t':=t') (k':=pA t k+d+1) (n:=cN t k) (fun j l=>by
   have:=h (7+2*pN t k+1+j) (by omega);rw [show pA t k+d+1+j=k+d+(7+2*pN t k+1+j) by omega,show pA t k+1+j=k+(7+2*pN t k+1+j) by omega];exact this)]
 rfl
theorem LA {t b:ByteArray} {k:Nat} (c:whole t k):whole (t++b) k/\xx (t++b) k=xx t k/\SW (t++b) k=SW t k :=
 YN (t':=t++b) (d:=0) c (fun j a=>O5 a) (by rw [ByteArray.size_append];omega)
theorem VQ (t:ByteArray) {k:Nat} (h:t.size<=k):¬whole t k:=fun a=>by have:=a.1;omega
theorem Pr (t:ByteArray) (f:Nat) {k:Nat} (h:t.size<=k):yN t f k=([],k):=by
 cases f with
 | zero=>rfl
 | succ f=>rw [yN,if_neg (VQ t h)]
theorem Ps {t b:ByteArray} (d:whole (t++b) t.size) (c:xx (t++b) t.size=t.size+b.size):∀ {f k:Nat},(yN t f k).2=t.size->(yN t f k).1.length<f->yN (t++b) f k=((yN t f k).1++[SW (t++b) t.size],t.size+b.size)
 | 0,k,_,h=>by simp at h
 | f+1,k,h1,h2=>by
  by_cases a:whole t k
  ·rw [yN,if_pos a] at h1 h2;simp only [List.length_cons] at h1 h2;obtain ⟨e,g,i⟩:=LA (b:=b) a;rw [yN,if_pos e,g,i,Ps d c h1 (by omega),yN,if_pos a];rfl
  rw [yN,if_neg a] at h1;obtain rfl:k=t.size:=h1;rw [yN,if_pos d,c,Pr _ _ (by rw [ByteArray.size_append];omega),yN,if_neg a];rfl
theorem VD (l:List Int):(strOfNums l).size=l.length:=by simp [strOfNums,ByteArray.size]
theorem IQ {l:List Int} (h:l.any wu=false) {j:Nat} (a:j<l.length):byt (strOfNums l) j=l[j]:=by
 have b:wu l[j]=false:=by
  have:=List.any_eq_false.1 h l[j] (List.getElem_mem a);simpa using this
 unfold wu at b;simp only [Bool.or_eq_false_iff,decide_eq_false_iff_not,Int.not_lt] at b;unfold byt;rw [dif_pos (by rw [VD];exact a)];have:(strOfNums l)[j]'(by rw [VD];exact a)=UInt8.ofNat l[j].toNat:=by
  simp [strOfNums,ByteArray.getElem_eq_getElem_data]
 rw [this,UInt8.toNat_ofNat'];omega
theorem ND:∀ (l:zd) {j:Nat} (a:j<l.length),(wL l)[2*j]?=some l[j].1/\(wL l)[2*j+1]?=some l[j].2
 | p::l,0,_=>⟨rfl,rfl⟩
 | p::l,j+1,a=>by
  have:=ND l (j:=j) (by simpa using a);have e:wL (p::l)=p.1::p.2::wL l:=rfl;rw [e,show 2*(j+1)=2*j+1+1 by omega,List.getElem?_cons_succ,List.getElem?_cons_succ,List.getElem?_cons_succ,List.getElem?_cons_succ];simpa using this
theorem Iq {l:List Int} (h:l.any wu=false) {j:Nat} {v:Int} (c:l[j]?=some v):byt (strOfNums l) j=v:=by
 obtain ⟨a,b⟩:=List.getElem?_eq_some_iff.1 c;rw [IQ h a,b]
theorem NP {s:ByteArray} {k:Nat} {l:zd} (h:∀ j v,(wL l)[j]?=some v->byt s (k+j)=v):Ye s k l.length=l:=by
 refine List.ext_getElem (by rw [yD]) fun j e b=>?_;have:=ND l b;have c:=h _ _ this.1;have d:=h _ _ this.2;have a:(Ye s k l.length)[j]?=some l[j]:=by
  unfold Ye;rw [List.getElem?_map,List.getElem?_range b,Option.map_some,c,Nat.add_assoc,d]
 rw [List.getElem?_eq_getElem e] at a;exact Option.some.inj a
theorem OZ {x:Ac} (a:Sc x=0):whole (Ud x) 0/\xx (Ud x) 0=(Ud x).size/\SW (Ud x) 0=x.bare:=by
 have t:Ud x=strOfNums (wG x):=by unfold Ud;rw [if_pos a]
 rw [t];unfold Sc at a;by_cases c:(wG x).any wu=true
 ·rw [if_pos c] at a;omega
 rw [if_neg c] at a;by_cases w:3<x.rq.ps.length\/48<x.cs.length
 ·rw [if_pos w] at a;omega
 have y:(wG x).any wu=false:=by simpa using c
 have u:(wG x).length=8+2*x.rq.ps.length+2*x.cs.length:=by
  unfold wG;simp only [List.length_append,List.length_cons,List.length_nil,ZQ];omega
 have z:(strOfNums (wG x)).size=8+2*x.rq.ps.length+2*x.cs.length:=by rw [VD,u]
 obtain ⟨s,i⟩:=qB (strOfNums (wG x));have B:∀ {j:Nat} {v:Int},(wG x)[j]?=some v->byt s j=v:=fun h=>by rw [i];exact Iq y h
 have d:byt s 6=(x.rq.ps.length:Int):=B rfl;have g:pN s 0=x.rq.ps.length:=by unfold pN;rw [Nat.zero_add,d];rfl
 have b:pA s 0=7+2*x.rq.ps.length:=by unfold pA;rw [g,Nat.zero_add]
 have C:∀ j v,(wL x.rq.ps)[j]?=some v->byt s (7+j)=v:=fun j v h=>B (by
  have E:=(List.getElem?_eq_some_iff.1 h).1;unfold wG;rw [List.getElem?_append_left (by simp;omega),List.getElem?_append_right (by simp;omega)];rw [show 7+j - [x.kind,x.n,x.rq.queue,x.rq.fr,x.rq.un,x.rq.kind].length=j+1 by simp;omega,List.getElem?_cons_succ];exact h)
 have e:byt s (7+2*x.rq.ps.length)=(x.cs.length:Int):=B (by
  unfold wG;rw [List.getElem?_append_right (by simp [ZQ];omega)];rw [show 7+2*x.rq.ps.length-([x.kind,x.n,x.rq.queue,x.rq.fr,x.rq.un,x.rq.kind]++(x.rq.ps.length:Int)::wL x.rq.ps).length=0 by simp [ZQ];omega];rfl)
 have f:cN s 0=x.cs.length:=by unfold cN;rw [b,e];rfl
 have A:∀ j v,(wL x.cs)[j]?=some v->byt s (8+2*x.rq.ps.length+j)=v:=fun j v h=>B (by
  unfold wG;rw [List.getElem?_append_right (by simp [ZQ];omega)];rw [show 8+2*x.rq.ps.length+j-([x.kind,x.n,x.rq.queue,x.rq.fr,x.rq.un,x.rq.kind]++(x.rq.ps.length:Int)::wL x.rq.ps).length=j+1 by simp [ZQ];omega,List.getElem?_cons_succ];exact h)
 have D:xx s 0=8+2*x.rq.ps.length+2*x.cs.length:=by unfold xx;rw [b,f];omega
 rw [<-i] at z ⊢;refine ⟨⟨by omega,by rw [Nat.zero_add,d];omega,by omega,by rw [b,e];omega,by omega⟩,by omega,?_⟩;unfold SW;rw [g,f,b,NP (l:=x.rq.ps) (k:=0+7) (fun j v h=>by rw [Nat.zero_add];exact C j v h),NP (l:=x.cs) (k:=7+2*x.rq.ps.length+1) (fun j v h=>by rw [<-A j v h];congr 1;omega)];have m:byt s 0=x.kind:=B rfl;have b1:byt s (0+1)=x.n:=B rfl;have o:byt s (0+2)=x.rq.queue:=B rfl;have p:byt s (0+3)=x.rq.fr:=B rfl;have q:byt s (0+4)=x.rq.un:=B rfl;have r:byt s (0+5)=x.rq.kind:=B rfl;rw [m,b1,o,p,q,r];rfl
theorem Of {t:ByteArray} {x:Ac} (c:Sc x=0) {f:Nat} (a:(yN t f 0).2=t.size) (b:(yN t f 0).1.length<f):yN (t++Ud x) f 0=((yN t f 0).1++[x.bare],t.size+(Ud x).size):=by
 obtain ⟨e,g,h⟩:=OZ c;have:=YN (t':=t++Ud x) (d:=t.size) e (fun j _=>by rw [Nat.zero_add,Nat.zero_add];exact QU _ _ _) (by rw [ByteArray.size_append];omega);rw [Nat.zero_add] at this;rw [Ps this.1 (by rw [this.2.1,g];omega) a b,this.2.2,h]
end Go.Proofs.YtckpdfkobdgjeaaGreatDoor
