/- Several texts in one: FrameK, KeptA. -/
import Derived.Test.YtckpdfkobdgjeaaGreatDoorHX
import Derived.Test.YtckpdfkobdgjeaaGreatDoorHFrameA
import Derived.Test.YtckpdfkobdgjeaaGreatDoorHAll28
import Derived.Test.YtckpdfkobdgjeaaGreatDoorHAll30
namespace Go.Proofs.YtckpdfkobdgjeaaGreatDoor
set_option maxRecDepth 100000
open Go.ChangeShapes Go.WideShapes Go.ChangeAt Go.RowKit
open Go.RowKit
theorem OX {w:World} {a:Option Addr} {cap:Nat} (h:cap<=9223372036854775807):AcsIn w a 0 cap []:=⟨rfl,Nat.zero_le _,h,fun h=>absurd h (Nat.lt_irrefl _),fun _ h=>by cases h⟩
theorem Id {t:Type} {enc:TypeId×Value->t} {c:World} {F:Nat} {Y:Nat->Bool} {P:Bool} {I:Nat} {cs:List Value} {a:Option Addr} {len cap:Nat} {x:DataW t×List MemPlace}
 (w:cs=[.slice a len cap]) (Q:DataW.trod enc Tryz.prog c F Y P I 31 cs=some x):∃ l,AcsIn c a len cap l:=by
 rcases Go.Deep.open_slice Tryz.underlying31 Q with ⟨h,_⟩ | ⟨u,af,aa,m,n,D,Z,h,_,S,B,U,_,k⟩
 ·rw [w] at h;simp at h;obtain ⟨rfl,rfl,rfl⟩:=h;exact ⟨[],OX (by omega)⟩
 ·rw [w] at h;simp at h;obtain ⟨rfl,rfl,rfl⟩:=h;have ad:len<=m:=by rw [U];split <;> omega
  simp only [maxLen] at B;have O:Tryz.prog.cellsOf 27=8:=by kernel_rfl
  rw [O] at k;by_cases ae:0<len
  ·have C:u.spot=none:=by
    obtain ⟨G,g,_⟩:=k 0 (by omega);obtain ⟨_,A,o⟩:=World.cells?_some g;have J:=o 0 (by omega);obtain ⟨ah,ai,aj,ak,al,am,an,ao,rfl⟩:=TP A;have:=World.cell?_spot J;simpa [Addr.add] using this
   obtain ⟨b,p,ag⟩:=u;simp only at C;subst C;have H:∀ i,i<len->∃ q:Ac,(∀ j s,(xW q)[j]?=some s->c.cell? (zA b (p+i*8+j))=some s)/\wl c q:=by
    intro i d;obtain ⟨G,g,L⟩:=k i (by omega);obtain ⟨_,A,o⟩:=World.cells?_some g;obtain ⟨r,V,M,_,_⟩:=Hx L;subst V;refine ⟨r,fun j s E=>?_,M⟩;have R:=(List.getElem?_eq_some_iff.1 E).1;have v:=o j (by simpa [xW] using R);rw [XP,XP] at v;exact (show c.cell? (zA b (p+i*8+j))=(xW r)[j]? from by simpa using v).trans E
   have ab:Inhabited Ac:=⟨⟨0,0,⟨0,0,0,0,none,0,0,[]⟩,none,0,0,[]⟩⟩;obtain ⟨f,z⟩:=Go.Deep.choose_lt H;refine ⟨(List.range len).map f,by simp,S,B,fun _=>⟨b,p,rfl,fun i X N=>?_⟩,fun y W=>?_⟩
   ·obtain ⟨d,e⟩:=List.getElem?_eq_some_iff.1 N;rw [<-e,List.getElem_map,List.getElem_range];exact (z i (by simpa using d)).1
   ·obtain ⟨i,d,rfl⟩:=List.mem_map.1 W;exact (z i (List.mem_range.1 d)).2
  obtain rfl:len=0:=by omega
  exact ⟨[],OX (by omega)⟩
theorem Hy {c:Type} {enc:TypeId×Value->c} {b:World} {f:Nat} {m:Nat->Bool} {g:Bool} {e:Nat} {v:Value} {d:DataW c} {p:List MemPlace}
 (k:Value.okWide Tryz.prog b .any e 31 v) (h:DataW.Trod enc Tryz.prog b f m g 31 v d p):∃ a len cap l,v=.slice a len cap/\AcsIn b a len cap l:=by
 obtain ⟨a,len,cap,rfl⟩:=okWide_slice Tryz.underlying31 k;obtain ⟨n,i⟩:=h;obtain ⟨l,j⟩:=Id (a:=a) (len:=len) (cap:=cap) (by simp [Value.cells]) i;exact ⟨a,len,cap,l,rfl,j⟩
def Zs (l:List Ac):ByteArray:=l.foldl (fun s x=>s++Ud x) ByteArray.empty
theorem Kp (l:List Ac) (x:Ac):Zs (l++[x])=Zs l++Ud x:=by unfold Zs;rw [List.foldl_append];rfl
theorem XR {l:List Ac} {n:Nat} (h:n<l.length):Zs (l.take (n+1))=Zs (l.take n)++Ud l[n]:=by rw [List.take_succ_eq_append_getElem h,Kp]
theorem PT {l:List Ac} {n:Nat}:∀ (d:Nat),n+d<=l.length->(Zs (l.take n)).size<=(Zs (l.take (n+d))).size/\∀ j,j<(Zs (l.take n)).size->byt (Zs (l.take (n+d))) j=byt (Zs (l.take n)) j
 | 0,_=>⟨Nat.le_refl _,fun _ _=>rfl⟩
 | d+1,h=>by
  obtain ⟨c,a⟩:=PT d (show n+d<=l.length by omega);rw [<-Nat.add_assoc,XR (show n+d<l.length by omega),ByteArray.size_append];exact ⟨by omega,fun j b=>by rw [O5 (by omega),a j b]⟩
theorem O6 {l:List Ac} (b:∀ x∈l,Sc x=0) {f:Nat}:∀ (n:Nat),n<=l.length->n<=f->yN (Zs (l.take n)) f 0=((l.take n).map Ac.bare,(Zs (l.take n)).size)
 | 0,_,_=>by
  rw [List.take_zero];exact Pr _ f (Nat.le_refl _)
 | n+1,h1,h2=>by
  have a:=O6 b n (by omega) (by omega:n<=f);have c:((l.take n).map Ac.bare).length=n:=by simp;omega
  rw [XR (show n<l.length by omega),Of (b _ (List.getElem_mem _)) (by rw [a]) (by rw [a];simp only;omega),a,List.take_succ_eq_append_getElem (show n<l.length by omega),List.map_append,ByteArray.size_append];rfl
theorem NQ {t b:ByteArray} (c:∀ j,j<t.size->byt b j=byt t j) (l:t.size<=b.size) (hn:¬whole b t.size):∀ {f k:Nat},(yN t f k).2=t.size->yN b f k=yN t f k
 | 0,k,_=>rfl
 | f+1,k,h1=>by
  by_cases a:whole t k
  ·rw [yN,if_pos a] at h1;obtain ⟨e,g,h⟩:=YN (t':=b) (d:=0) a (fun j i=>c _ i) (by omega);rw [Nat.add_zero] at e g h;rw [yN,if_pos e,g,h,Nat.add_zero,NQ c l hn h1,yN,if_pos a]
  rw [yN,if_neg a] at h1;obtain rfl:k=t.size:=h1;rw [yN,if_neg hn,yN,if_neg a]
theorem I0 {l:List Ac} (h:∀ x∈l,Sc x=0) {f:Nat} {c:ByteArray} (B:c.size<=(Zs l).size) (i:∀ j,j<c.size->byt c j=byt (Zs l) j) {a:Nat} (t:a<=l.length) (v:a<=f) (e:(Zs (l.take a)).size<=c.size) (b:a=l.length\/c.size<(Zs (l.take (a+1))).size):yN c f 0=((l.take a).map Ac.bare,(Zs (l.take a)).size):=by
 have o:=O6 h a t v;obtain ⟨d,u⟩:∃ d,a+d=l.length:=⟨l.length-a,by omega⟩;obtain ⟨w,r⟩:=PT (l:=l) (n:=a) d (by omega);rw [u,List.take_length] at w r;rw [<-o];refine NQ (fun j g=>by rw [i j (by omega),r j g]) e ?_ (by rw [o]);rcases b with b | b
 ·subst b;rw [List.take_length] at e ⊢;exact VQ c (by omega)
 intro p;by_cases k:a<l.length
 ·obtain ⟨y,s⟩:=PT (l:=l) (n:=a+1) (d-1) (by omega);rw [show a+1+(d-1)=l.length by omega,List.take_length] at y s;obtain ⟨C,q,D⟩:=YN (t':=Zs (l.take (a+1))) (d:=0) p (fun j g=>by rw [i _ g];exact (s _ (by omega)).symm) (by omega);obtain ⟨z,A,E⟩:=OZ (h _ (List.getElem_mem k));have m:=YN (t':=Zs (l.take a)++Ud l[a]) (d:=(Zs (l.take a)).size) z (fun j _=>by rw [Nat.zero_add,Nat.zero_add];exact QU _ _ _) (by rw [ByteArray.size_append];omega);rw [Nat.zero_add,A] at m;rw [XR k] at q b;rw [Nat.add_zero,m.2.1,Nat.add_zero] at q;rw [ByteArray.size_append] at b;have:=p.2.2.2.2;omega
 rw [List.take_of_length_le (by omega)] at b;rw [List.take_of_length_le (show l.length<=a by omega)] at e;omega
end Go.Proofs.YtckpdfkobdgjeaaGreatDoor
