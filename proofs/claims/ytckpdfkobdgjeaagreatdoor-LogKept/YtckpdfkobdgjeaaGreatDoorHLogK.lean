/- Acts without memory: what is read of a text, and that an act written behind it is read behind it; no Go. -/
import Derived.Test.YtckpdfkobdgjeaaGreatDoorHAll18
namespace Go.Proofs.YtckpdfkobdgjeaaGreatDoor
open Go.RowKit
def Ac.bare (x:Ac):Ac:=⟨x.kind,x.n,x.rq.bare,none,0,0,x.cs⟩
def SW (t:ByteArray) (k:Nat):Ac:=⟨byt t k,byt t (k+1),⟨byt t (k+2),byt t (k+3),byt t (k+4),byt t (k+5),none,0,0,Ye t (k+7) (pN t k)⟩,none,0,0,Ye t (pA t k+1) (cN t k)⟩
theorem AcAt.is {t:ByteArray} {k:Nat} {x:Ac} (h:AcAt t k x):x.bare=SW t k:=by
 obtain ⟨a,b,c,d,e,f,g,i⟩:=h;unfold Ac.bare SW Rq.bare;rw [a,b,c,d,e,f,g,i]
def yN (t:ByteArray):Nat->Nat->List Ac×Nat
 | 0,k=>([],k)
 | f+1,k=>if whole t k then (SW t k::(yN t f (xx t k)).1,(yN t f (xx t k)).2) else ([],k)
theorem Zr.is {t:ByteArray}:∀ {l:List Ac} {k m f:Nat},Zr t k l m->l.length<=f->(l.length=f\/¬whole t m)->yN t f k=(l.map Ac.bare,m)
 | [],k,m,0,h,_,_=>by obtain rfl:m=k:=h;rfl
 | [],k,m,f+1,h,_,hw=>by
  obtain rfl:m=k:=h;rw [yN,if_neg (hw.resolve_left (by simp))];rfl
 | x::l,k,m,0,_,hl,_=>by simp at hl
 | x::l,k,m,f+1,h,hl,hw=>by
  rw [yN,if_pos h.1,Zr.is h.2.2 (by simp at hl;omega) (by simpa using hw),List.map_cons,h.2.1.is]
theorem RS {t t':ByteArray} {k k' n:Nat} (h:∀ j,j<2*n->byt t' (k'+j)=byt t (k+j)):Ye t' k' n=Ye t k n:=by
 unfold Ye;refine List.map_congr_left fun j a=>?_;have b:=List.mem_range.1 a;rw [h (2*j) (by omega),Nat.add_assoc,h (2*j+1) (by omega),<-Nat.add_assoc]
end Go.Proofs.YtckpdfkobdgjeaaGreatDoor
