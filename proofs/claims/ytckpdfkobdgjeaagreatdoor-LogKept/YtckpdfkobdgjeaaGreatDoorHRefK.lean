/- The reference's checks, carried over from the texts of the requests' and trees' laws: CheckTree, CheckReq, MeetsOf and what they call. -/
import Derived.BigQuiet
import Derived.Test.YtckpdfkobdgjeaaGreatDoorHRefJ
namespace Go.Proofs.YtckpdfkobdgjeaaGreatDoor
set_option maxRecDepth 100000
set_option maxHeartbeats 4000000
open Go.RowKit
theorem zo (n b a:Int) (w:World):zC 33 #[zI n,zI b,zI a] w fun e w'=>e=.returned (.bool (yW n b a))/\w'=w:=by
 go_enter Tryz.func33,Tryz.ntmps33;go_wp2
 all_goals
  go_ret;exact ⟨zm (by simp [yW];omega),rfl⟩
theorem Yl (n:Int) (w:World):zC 112 #[zI n] w fun e w'=>e=.returned (.bool (yW n 0 47))/\w'=w:=by
 go_enter Tryz.func112,Tryz.ntmps112;go_wp2_with (go_at_call 33;refine (zo _ _ _ _).mono ?_;rintro e w' ⟨rfl,rfl⟩)
 go_ret;exact ⟨rfl,rfl⟩
theorem R8 (a b:Int) (w:World):zC 113 #[zI a,zI b] w fun e w'=>e=.returned (.bool (Xw a b))/\w'=w:=by
 cases c:yW a 0 48 with
 | false =>
  go_enter Tryz.func113,Tryz.ntmps113;go_wp2_with (go_at_call 33;refine (zo _ _ _ _).mono ?_;rintro e w' ⟨rfl,rfl⟩)
  go_ret;refine ⟨zm ?_,rfl⟩;simp [yW] at c;simp [Xw];omega
 | true =>
  cases d:yW b 0 48 with
  | false =>
   go_enter Tryz.func113,Tryz.ntmps113;go_wp2_with (go_at_call 33;refine (zo _ _ _ _).mono ?_;rintro e w' ⟨rfl,rfl⟩)
   go_ret;refine ⟨zm ?_,rfl⟩;simp [yW] at c d;simp [Xw];omega
  | true =>
   go_enter Tryz.func113,Tryz.ntmps113;go_wp2_with (go_at_call 33;refine (zo _ _ _ _).mono ?_;rintro e w' ⟨rfl,rfl⟩)
   go_ret;refine ⟨zm ?_,rfl⟩;simp [yW] at c d;simp only [Xw];rw [Bool.eq_iff_iff];simp;omega
theorem Qr (w:World) (b q n cap:Nat) (l:zd) (h:RunsIn w (zO b q) n cap l) (H:0<n) :
 zC 66 #[.slice (zO b q) n cap] w fun e w'=>e=.returned (.bool (xe l))/\∃ d,w'=w.drewN d:=by
 obtain ⟨hn,U,P,Q,c⟩:=h;have p:Zh (n=l.length):=hn;clear hn;obtain ⟨I,X,e,c⟩:=c (by omega);cases e
 have V:(0:Int)<n:=by omega
 go_enter Tryz.func66,Tryz.ntmps66;go_wp2;go_loopw [3] (fun s wr=>∃ j:Nat,s=zI j/\j<=n/\(∀ i,i<j->XW l i)/\∃ d,wr=w.drewN d) (fun s _=>n-(intOf s).toNat)
 case atStart=>exact ⟨0,rfl,by omega,fun i R=>by omega,0,rfl⟩
 case round =>
  obtain ⟨j,rfl,O,B,x⟩:=hrel;have u:Zh (∀ i,i<j->XW l i):=B;have g:Zh (∃ d,wr=w.drewN d):=x;clear B;have f:∀ a,wr.cell? a=w.cell? a:=by obtain ⟨d,rfl⟩:=x;exact fun a=>rfl
  clear x;by_cases m:j<n
  ·have G:(j:Int)<n:=(by omega);have C:wr.cell? (zA b (q+j*2))=some (zI (zp l j)):=(f _).trans (c j m).1;have c1:wr.cell? (zA b (q+j*2+1))=some (zI (rN l j)):=(f _).trans (c j m).2;cases z:yW (zp l j) 0 47 with
   | false =>
    clear f c;go_wp2;go_quiet ((first | (go_at_call 112;exact Calls.quiet_of_same (Yl _ _)) | (go_at_call 33;exact Calls.quiet_of_same (zo _ _ _ _))))
    go_wp2;go_ret;exact ⟨zm (WQ p m (Hg u z)).symm,xM g _⟩
   | true =>
    cases r:bdd (rN l j) with
    | false =>
     have D:yW (rN l j) (-1048576) 1048576=false:=r;clear f c;go_wp2;go_quiet ((first | (go_at_call 112;exact Calls.quiet_of_same (Yl _ _)) | (go_at_call 33;exact Calls.quiet_of_same (zo _ _ _ _))))
     go_wp2;go_ret;exact ⟨zm (WQ p m (fun h=>by have:=h.2.2.1;simp [r] at this)).symm,xM g _⟩
    | true =>
     have D:yW (rN l j) (-1048576) 1048576=true:=r;cases j with
     | zero =>
      simp only [Nat.zero_mul,Nat.add_zero] at C c1;clear f c;by_cases t:zp l 0=0
      ·have F:(zp l 0 != 0)=false:=(by simp [t]);have y:Zh (zp l 0=0):=t;clear t;go_wp2;go_quiet ((first | (go_at_call 112;exact Calls.quiet_of_same (Yl _ _)) | (go_at_call 33;exact Calls.quiet_of_same (zo _ _ _ _))))
       go_wp2;go_roundw
       case rel=>exact ⟨1,rfl,by omega,UI u ⟨fun _=>y.o,by rw [y.o];decide,r,fun h=>by omega⟩,xM g _⟩
       case measure=>simp [intOf];omega
      have F:(zp l 0 != 0)=true:=(by simp [t]);go_wp2;go_quiet ((first | (go_at_call 112;exact Calls.quiet_of_same (Yl _ _)) | (go_at_call 33;exact Calls.quiet_of_same (zo _ _ _ _))))
      go_wp2;go_ret;exact ⟨zm (WQ p m (fun h=>t (h.1 rfl))).symm,xM g _⟩
     | succ k =>
      have M:decide ((0:Int) < ↑k+1)=true:=(by simp);have N:(((k:Int)+1)==0)=false:=beq_eq_false_iff_ne.2 (by omega);have S:(k:Int)<n:=(by omega);have W:IntKind.i64.wrap (k:Int)=k:=(by rw [IntKind.wrap_i64];omega);have J:wr.cell? (zA b (q+k*2))=some (zI (zp l k)):=(f _).trans (c k (by omega)).1;have L:wr.cell? (zA b (q+k*2+1))=some (zI (rN l k)):=(f _).trans (c k (by omega)).2;clear f c;by_cases A:zp l (k+1)<=zp l k
      ·have E:decide (zp l (k+1)<=zp l k)=true:=(by simpa using A);go_wp2;go_quiet ((first | (go_at_call 112;exact Calls.quiet_of_same (Yl _ _)) | (go_at_call 33;exact Calls.quiet_of_same (zo _ _ _ _))))
       go_wp2;go_ret;exact ⟨zm (WQ p m (fun h=>by have:=(h.2.2.2 (by omega)).1;simp only [Nat.add_sub_cancel] at this;omega)).symm,xM g _⟩
      have E:decide (zp l (k+1)<=zp l k)=false:=(by simpa using A);go_wp2;go_quiet ((first | (go_at_call 112;exact Calls.quiet_of_same (Yl _ _)) | (go_at_call 33;exact Calls.quiet_of_same (zo _ _ _ _))))
      go_wp2
      ·have v:(rN l k==rN l (k+1))=true:=(by assumption);go_ret;exact ⟨zm (WQ p m (fun h=>by have:=(h.2.2.2 (by omega)).2;simp only [Nat.add_sub_cancel] at this;exact this (eq_of_beq v).symm)).symm,xM g _⟩
      have v:(rN l k==rN l (k+1))=false:=(by assumption);go_roundw
      case rel=>exact ⟨k+1+1,by go_num,by omega,UI u ⟨fun h=>by omega,(of_decide_eq_true z).2 |> fun h=>by omega,r,fun _=>⟨by simp only [Nat.add_sub_cancel];omega,by simp only [Nat.add_sub_cancel];exact (ne_of_beq_false v).symm⟩⟩,xM g _⟩
      case measure=>simp [intOf];omega
  have G:¬(j:Int)<n:=by omega
  obtain rfl:j=n:=by omega
  clear f c;go_wp2;go_ret;exact ⟨zm (by rw [KZ p H u.o]),g.o⟩
theorem Qq (w:World) (a:Option Addr) (cap:Nat) :
 zC 66 #[.slice a 0 cap] w fun e w'=>e=.returned (.bool (xe []))/\w'=w:=by
 go_enter Tryz.func66,Tryz.ntmps66;go_wp2;go_loop [3] (fun s=>s=zI 0) (fun _=>0)
 case atStart=>rfl
 case round =>
  subst hrel;go_wp2;go_ret;exact ⟨zm (by rfl),rfl⟩
theorem Ul (w:World) (a:Option Addr) (n cap:Nat) (l:zd) (h:RunsIn w a n cap l) :
 zC 66 #[.slice a n cap] w fun e w'=>e=.returned (.bool (xe l))/\∃ d,w'=w.drewN d:=by
 by_cases c:0<n
 ·obtain ⟨b,f,rfl,_⟩:=h.cells c;exact Qr w b f n cap l h c
 ·obtain rfl:n=0:=by omega
  obtain rfl:l=[]:=by have:=h.len;exact List.eq_nil_of_length_eq_zero this.symm
  refine (Qq w a cap).mono ?_;rintro e w' ⟨rfl,rfl⟩;exact ⟨rfl,0,rfl⟩
theorem SJ (s:ByteArray) (w:World) (l:s.size<=9223372036854775807):zC 41 #[.string s] w fun e w'=>e=.returned (.bool (Zg s))/\w'=w:=by
 go_enter Tryz.func41,Tryz.ntmps41;go_wp2;go_loop [3] (fun c=>∃ k:Nat,c=zI k/\k<=s.size/\Si s k=true) (fun c=>s.size-(intOf c).toNat)
 case atStart=>exact ⟨0,rfl,by omega,rfl⟩
 obtain ⟨k,rfl,i,h⟩:=hrel;have d:Zh (Si s k=true):=h;clear h;by_cases b:k<s.size
 ·have j:(k:Int)<s.size:=by omega
  by_cases f:(s[k].toNat:Int)<97
  ·have a:Zh (MD (ZF s k)=false):=Ik b f;go_wp2;go_ret;exact ⟨zm (UF b a.o).symm,rfl⟩
  by_cases g:(122:Int)<s[k].toNat
  ·have a:Zh (MD (ZF s k)=false):=LH b g;go_wp2;go_ret;exact ⟨zm (UF b a.o).symm,rfl⟩
  have a:Zh (MD (ZF s k)=true):=Il b f g;go_wp2;go_round
  case rel=>exact ⟨k+1,by go_num,by omega,by rw [Si,d.o,a.o];rfl⟩
  case measure=>simp [intOf];omega
 obtain rfl:k=s.size:=by omega
 have e:Zh (yW (s.size:Int) 1 8=Zg s):=by
  show yW (s.size:Int) 1 8=Zg s;rw [Zg,d.o,yW,Bool.eq_iff_iff];simp;omega
 go_wp2_with (go_at_call 33;refine (zo _ _ _ _).mono ?_;rintro e w' ⟨rfl,rfl⟩)
 go_ret;exact ⟨zm e.o,rfl⟩
theorem PC (w:World) (b q n cap:Nat) (l:zd) (h:RunsIn w (zO b q) n cap l) (t:0<n) :
 zC 42 #[.slice (zO b q) n cap] w fun e w'=>e=.returned (.bool (yR l))/\Below w.heap.size w w':=by
 have f:=zh h.len;have z:=h.le;have x:=h.bound;obtain ⟨v,B,e,j⟩:=h.cells t;cases e
 have s:=zh j;clear j;go_enter Tryz.func42,Tryz.ntmps42;go_wp2;go_loop [3] (fun c=>∃ k:Nat,c=zI k/\k<=n/\Xj l k=true) (fun c=>n-(intOf c).toNat)
 case atStart=>exact ⟨0,rfl,by omega,rfl⟩
 case round =>
  obtain ⟨k,rfl,y,m⟩:=hrel;have d:=zh m;clear m;by_cases p:k<n
  ·have A:(k:Int)<n:=(by omega);have c1:=(s.o k p).2;cases g:QV (rN l k) with
   | false =>
    have a:yW (rN l k) 0 50=false:=g;go_wp2_with (go_at_call 33;refine (zo _ _ _ _).mono ?_;rintro e w' ⟨rfl,rfl⟩;rw [a])
    go_ret;exact ⟨zm (by rw [yR,<-f.o,WN g n p];simp),Below.refl _ _⟩
   | true =>
    have a:yW (rN l k) 0 50=true:=g;go_wp2_with (go_at_call 33;refine (zo _ _ _ _).mono ?_;rintro e w' ⟨rfl,u⟩;rw [u,a])
    go_round
    case rel=>exact ⟨k+1,by go_num,by omega,by rw [Xj,d.o,g];rfl⟩
    case measure=>simp [intOf];omega
  obtain rfl:k=n:=by omega
  go_wp2_with fail
  refine (Ul w _ _ _ l h).mono ?_;rintro e C ⟨rfl,i⟩;have r:=zh (yM i);clear i;go_wp2;go_ret;exact ⟨zm (by rw [yR,<-f.o,d.o];simp),r.o⟩
theorem Xx (w:World) (a:Option Addr) (n cap:Nat) (l:zd) (h:RunsIn w a n cap l) :
 zC 42 #[.slice a n cap] w fun e w'=>e=.returned (.bool (yR l))/\Below w.heap.size w w':=by
 by_cases d:0<n
 ·obtain ⟨b,i,rfl,_⟩:=h.cells d;exact PC w b i n cap l h d
 ·obtain rfl:n=0:=by omega
  have g:=zh h;obtain rfl:l=[]:=List.eq_nil_of_length_eq_zero h.len.symm;go_enter Tryz.func42,Tryz.ntmps42;go_wp2;go_loop [3] (fun j=>j=zI 0) (fun _=>0)
  case atStart=>rfl
  subst hrel;go_wp2_with fail
  refine (Ul w _ _ _ [] g.o).mono ?_;rintro e k ⟨rfl,c⟩;have f:=zh (yM c);clear c;go_wp2;go_ret;exact ⟨zm (by rfl),f.o⟩
theorem Yw (w:World) (a:Option Addr) (n cap:Nat) (l:QL) (h:QsIn w a n cap l) :
 zC 16 #[.slice a n cap] w fun e w'=>e=.returned (zI (z9 l))/\Below w.heap.size w w':=by
 have hn:=h.len;have af:=h.capb;have aj:=h.le;cases x:yW l.length 1 5 with
 | false =>
  have ad:z9 l=2:=by simp [z9,x]
  rw [ad];rw [<-hn] at x;have t:=zh hn;clear hn;go_enter Tryz.func16,Tryz.ntmps16;go_wp2_with (go_at_call 33;refine (zo _ _ _ _).mono ?_;rintro e w' ⟨rfl,rfl⟩;rw [x])
  go_ret;exact ⟨rfl,Below.refl _ _⟩
 | true =>
  have D:=zh x;rw [<-hn] at x;have M:=of_decide_eq_true x;have ab:0<n:=by omega
  have ae:n<=5:=by omega
  have t:=zh hn;clear hn M;obtain ⟨b,N,rfl,U⟩:=h.cells ab;have A:=zh U;clear U;go_enter Tryz.func16,Tryz.ntmps16;go_wp2_with (go_at_call 33;refine (zo _ _ _ _).mono ?_;rintro e w' ⟨rfl,M⟩;rw [M,x])
  go_loop [3] (fun c=>∃ k:Nat,c=zI k/\k<=n/\Yg (fun q=>Zg q.name) l k=true) (fun c=>n-(intOf c).toNat)
  case atStart=>exact ⟨0,rfl,by omega,rfl⟩
  obtain ⟨k,rfl,V,r⟩:=hrel;have f:=zh r;clear r;by_cases m:k<n
  ·have L:(k:Int)<n:=(by omega);have J:=(A.o k m).1;cases g:Zg (qu l k).name with
   | false =>
    go_wp2_with fail
    refine (SJ _ w (h.names k m)).mono ?_;rintro e w' ⟨rfl,y⟩;rw [y,g];go_wp2;go_ret;exact ⟨yK (Fm D.o (by rw [xC,<-t.o];exact Xg (p:=fun q=>Zg q.name) g n m)).symm,Below.refl _ _⟩
   | true =>
    go_wp2_with fail
    refine (SJ _ w (h.names k m)).mono ?_;rintro e w' ⟨rfl,y⟩;rw [y,g];go_wp2;go_round
    case rel=>exact ⟨k+1,by go_num,by omega,by rw [Yg,f.o,g];rfl⟩
    case measure=>simp [intOf];omega
  obtain rfl:n=k:=by omega
  have E:Zh (xC l=true):=by show xC l=true;rw [xC,<-t.o];exact f.o
  clear f;go_wp2_with fail
  go_loopw [4,5] (fun c _ wr=>∃ j:Nat,c=zI j/\j<=n/\yu l j=true/\∃ d,wr=w.drewN d) (fun c _ _=>n-(intOf c).toNat)
  case atStart=>exact ⟨0,rfl,by omega,rfl,0,rfl⟩
  obtain ⟨j,rfl,ai,r,B⟩:=hrel;have f:=zh r;have v:=zh B;clear r B;by_cases m:j<n
  ·have L:(j:Int)<n:=(by omega);obtain ⟨u,z⟩:∃ u:World,u=wr:=⟨_,rfl⟩;rw [<-z] at v;rw [<-z];clear z wr;go_wp2_with fail
   go_loopw [5] (fun c wr=>∃ i:Nat,c=zI i/\i<=j/\yy l j i=false/\∃ d,wr=w.drewN d) (fun c _=>j-(intOf c).toNat)
   case atStart=>exact ⟨0,rfl,by omega,rfl,v.o⟩
   obtain ⟨i,rfl,G,W,B⟩:=hrel;have Q:=zh W;have I:=zh B;clear W;have s:∀ a,wr.cell? a=w.cell? a:=(by obtain ⟨d,rfl⟩:=B;exact fun a=>rfl);clear B;by_cases aa:i<j
   ·have ag:(i:Int)<j:=(by omega);have ah:(i:Int)<n:=(by omega);have J:=(s _).trans (A.o i (by omega)).1;have c1:=(s _).trans (A.o j m).1;clear s;cases g:(nm l i==nm l j) with
    | true =>
     have Z:((qu l i).name.toList==(qu l j).name.toList)=true:=(by rw [ByteArray.toList_eq,ByteArray.toList_eq];exact g);go_wp2;go_quiet (fail)
     go_wp2;go_ret;exact ⟨yK (Fn D.o E.o (by rw [<-t.o];exact XM (QE aa g) n m)).symm,_root_.Go.below_drewN (yM I.o) _⟩
    | false =>
     have Z:((qu l i).name.toList==(qu l j).name.toList)=false:=(by rw [ByteArray.toList_eq,ByteArray.toList_eq];exact g);go_wp2;go_quiet (fail)
     go_wp2;go_roundw
     case rel=>exact ⟨i+1,by go_num,by omega,by rw [yy,Q.o,g];rfl,xM I _⟩
     case measure=>simp [intOf];omega
   obtain rfl:j=i:=(by omega);clear s;go_wp2;go_roundw
   case rel=>exact ⟨j+1,by go_num,by omega,by rw [yu,f.o,Q.o];rfl,I.o⟩
   case measure=>simp [intOf];omega
  obtain rfl:n=j:=by omega
  have H:Zh (yu l l.length=true):=by show yu l l.length=true;rw [<-t.o];exact f.o
  have s:∀ a,wr.cell? a=w.cell? a:=by obtain ⟨d,rfl⟩:=v.o;exact fun a=>rfl
  obtain ⟨u,z⟩:∃ u:World,u=wr:=⟨_,rfl⟩;rw [<-z] at v s;rw [<-z];have P:Zh (∀ i,i<n->u.cell? (zA b (N+i*3))=some (.string (qu l i).name)/\u.cell? (zA b (N+i*3+1))=some (zI (qu l i).parent)/\u.cell? (zA b (N+i*3+2))=some (.slice (qu l i).ca (qu l i).cn (qu l i).cc)):=fun i G=>⟨(s _).trans (A.o i G).1,(s _).trans (A.o i G).2.1,(s _).trans (A.o i G).2.2⟩;clear z s wr f;go_wp2_with fail
  go_loop [6] (fun c=>∃ k:Nat,c=zI k/\k<=n/\xK l k=true) (fun c=>n-(intOf c).toNat)
  case atStart=>exact ⟨0,rfl,by omega,rfl⟩
  obtain ⟨k,rfl,V,r⟩:=hrel;have f:=zh r;clear r;by_cases m:k<n
  ·have L:(k:Int)<n:=(by omega);have J:=(P.o k m).2.1;have X:Zh (yW (qu l k).parent (-1) ((k:Int)-1)=decide (-1<=(qu l k).parent/\(qu l k).parent<k)):=by
    show yW (qu l k).parent (-1) ((k:Int)-1)=decide (-1<=(qu l k).parent/\(qu l k).parent<k);rw [yW,Bool.eq_iff_iff];simp;omega
   cases g:decide (-1<=(qu l k).parent/\(qu l k).parent<k) with
   | false =>
    go_wp2_with fail
    refine (zo _ _ _ _).mono ?_;rintro e w' ⟨rfl,y⟩;rw [y,X.o,g];go_wp2;go_ret;exact ⟨yK (Fl D.o E.o H.o (by rw [<-t.o];exact XE (of_decide_eq_false g) n m)).symm,yM v.o⟩
   | true =>
    go_wp2_with fail
    refine (zo _ _ _ _).mono ?_;rintro e w' ⟨rfl,y⟩;rw [y,X.o,g];go_wp2;go_round
    case rel=>exact ⟨k+1,by go_num,by omega,by rw [xK,f.o,g];rfl⟩
    case measure=>simp [intOf];omega
  obtain rfl:n=k:=by omega
  have O:Zh (xK l l.length=true):=by show xK l l.length=true;rw [<-t.o];exact f.o
  clear f;go_wp2_with fail
  go_loopw [7] (fun c wr=>∃ k:Nat,c=zI k/\k<=n/\Yg (fun q=>yR q.runs) l k=true/\zL u wr) (fun c _=>n-(intOf c).toNat)
  case atStart=>exact ⟨0,rfl,by omega,rfl,Below.refl _ _⟩
  obtain ⟨k,rfl,V,r,S⟩:=hrel;have f:=zh r;have C:=zh S;clear r S;by_cases m:k<n
  ·have L:(k:Int)<n:=(by omega);have J:=cell_later C.o (P.o k m).2.2;have R:=zh (((h.caps k m).later (yM v.o)).later C.o);cases g:yR (qu l k).runs with
   | false =>
    go_wp2_with fail
    refine (Xx _ _ _ _ _ R.o).mono ?_;rintro e w' ⟨rfl,F⟩;rw [g];go_wp2;go_ret;exact ⟨yK (Fk D.o E.o H.o O.o (by rw [ZX,<-t.o];exact Xg (p:=fun q=>yR q.runs) g n m)).symm,za (za (yM v.o) C.o) F⟩
   | true =>
    go_wp2_with fail
    refine (Xx _ _ _ _ _ R.o).mono ?_;rintro e w' ⟨rfl,F⟩;have Y:=zh F;clear F;rw [g];go_wp2;go_roundw
    case rel=>exact ⟨k+1,by go_num,by omega,by rw [Yg,f.o,g];rfl,za C.o Y.o⟩
    case measure=>simp [intOf];omega
  obtain rfl:n=k:=by omega
  go_wp2;go_ret;exact ⟨yK (Fj D.o E.o H.o O.o (by rw [ZX,<-t.o];exact f.o)).symm,za (yM v.o) C.o⟩
theorem ZH (k:Int) (w:World):zC 67 #[zI k] w fun e w'=>e=.returned (.bool (yW k 1 4))/\w'=w:=by
 go_enter Tryz.func67,Tryz.ntmps67;go_wp2_with (go_at_call 33;refine (zo _ _ _ _).mono ?_;rintro e w' ⟨rfl,rfl⟩)
 go_ret;exact ⟨rfl,rfl⟩
theorem wM (w:World) (r:Rq) (h:zH w r) :
 zC 68 #[.agg #[zI r.queue,zI r.fr,zI r.un,zI r.kind,.slice r.pa r.pn r.pc]] w fun e w'=>e=.returned (zI (if yW r.ps.length 1 3=true then 0 else 2))/\Below w.heap.size w w':=by
 have hn:=h.len;have b:=h.capb;have c:=h.le;rw [<-hn];clear hn;cases g:yW r.pn 1 3
 all_goals
  go_enter Tryz.func68,Tryz.ntmps68;go_wp2_with (go_at_call 33;refine (zo _ _ _ _).mono ?_;rintro e w' ⟨rfl,a⟩;rw [a,g])
  go_ret;exact ⟨yK (by rfl),zr _ _⟩
theorem Vh (w:World) (r:Rq) (h:zH w r) (F:0<r.pn) :
 zC 69 #[.agg #[zI r.queue,zI r.fr,zI r.un,zI r.kind,.slice r.pa r.pn r.pc]] w fun e w'=>e=.returned (zI (if yJ r=true then 0 else 3))/\Below w.heap.size w w':=by
 have D:=zh h.len;have I:=h.capb;have L:=h.le;obtain ⟨b,s,C,t⟩:=h.cells F;have c:=zh ((Below.refl w.heap.size w).alloc (Nat.le_refl _) (.cells #[zI r.queue,zI r.fr,zI r.un,zI r.kind,.slice r.pa r.pn r.pc] 24));have f:Zh (∀ i,i<r.pn->(w.alloc (.cells #[zI r.queue,zI r.fr,zI r.un,zI r.kind,.slice r.pa r.pn r.pc] 24)).cell? (zA b (s+i*2))=some (zI (zp r.ps i))/\(w.alloc (.cells #[zI r.queue,zI r.fr,zI r.un,zI r.kind,.slice r.pa r.pn r.pc] 24)).cell? (zA b (s+i*2+1))=some (zI (rN r.ps i))):=fun i B=>⟨cell_later c.o (t i B).1,cell_later c.o (t i B).2⟩;clear t;rw [C] at f c;rw [C];cases n:Xw r.fr r.un with
 | false =>
  have m:yJ r=false:=by rw [yJ,n];rfl
  rw [m];go_enter Tryz.func69,Tryz.ntmps69;go_wp2_with (go_at_call 113;refine (R8 _ _ _).mono ?_;rintro e w' ⟨rfl,a⟩;rw [a,n])
  go_ret;exact ⟨yK (by rfl),c.o⟩
 | true =>
  have m:Zh (yJ r=zQ (xI r.ps) r.pn):=by show yJ r=zQ (xI r.ps) r.pn;rw [yJ,n,Xo,D.o];rfl
  obtain ⟨x,q⟩:∃ x:Int,(if yJ r=true then (0:Int) else 3)=x:=⟨_,rfl⟩;have E:Zh (zQ (xI r.ps) r.pn=true->0=x):=fun e=>by rw [<-q,m.o,e];rfl
  have z:Zh (zQ (xI r.ps) r.pn=false->3=x):=fun e=>by rw [<-q,m.o,e];rfl
  rw [q];clear q;go_enter Tryz.func69,Tryz.ntmps69;go_wp2_with (go_at_call 113;refine (R8 _ _ _).mono ?_;rintro e w' ⟨rfl,a⟩;rw [a,n])
  obtain ⟨v,p⟩:∃ v:World,v=w.alloc (.cells #[zI r.queue,zI r.fr,zI r.un,zI r.kind,.slice (some ⟨b,s,none⟩) r.pn r.pc] 24):=⟨_,rfl⟩;have c5:v.cell? (zA w.heap.size 4)=some (.slice (zO b s) r.pn r.pc):=by rw [p];go_simp
  rw [<-p] at f c;rw [<-p];clear p;go_loop [3] (fun u=>∃ k:Nat,u=zI k/\k<=r.pn/\zQ (xI r.ps) k=true) (fun u=>r.pn-(intOf u).toNat)
  case atStart=>exact ⟨0,rfl,by omega,rfl⟩
  obtain ⟨k,rfl,J,A⟩:=hrel;have y:=zh A;clear A;by_cases l:k<r.pn
  ·have M:(k:Int)<r.pn:=(by omega);have G:=(f.o k l).1;have H:=(f.o k l).2;cases d:yW (zp r.ps k) 1 24 with
   | false =>
    have g:xI r.ps k=false:=(by rw [xI,d];rfl);go_wp2_with (go_at_call 33;refine (zo _ _ _ _).mono ?_;rintro e w' ⟨rfl,a⟩;rw [a,d])
    go_ret;exact ⟨yK (z.o (yO g _ l)),c.o⟩
   | true =>
    cases j:yW (rN r.ps k) 1 50 with
    | false =>
     have g:xI r.ps k=false:=(by rw [xI,d,j];rfl);go_wp2_with (go_at_call 33;refine (zo _ _ _ _).mono ?_;rintro e w' ⟨rfl,a⟩;rw [a];(first | rw [d] | rw [j]))
     go_ret;exact ⟨yK (z.o (yO g _ l)),c.o⟩
    | true =>
     have g:xI r.ps k=true:=(by rw [xI,d,j];rfl);go_wp2_with (go_at_call 33;refine (zo _ _ _ _).mono ?_;rintro e w' ⟨rfl,a⟩;rw [a];(first | rw [d] | rw [j]))
     go_round
     case rel=>exact ⟨k+1,by go_num,by omega,by rw [zQ,y.o,g];rfl⟩
     case measure=>simp [intOf];omega
  obtain rfl:k=r.pn:=by omega
  go_wp2;go_ret;exact ⟨yK (E.o y.o),c.o⟩
theorem Ue (w:World) (a:Option Addr) (n cap:Nat) (l:QL) (A:QsIn w a n cap l) (r:Rq) (h:zH w r) :
 zC 106 #[.slice a n cap,.agg #[zI r.queue,zI r.fr,zI r.un,zI r.kind,.slice r.pa r.pn r.pc]] w fun e w'=>e=.returned (zI (yI l r))/\Below w.heap.size w w':=by
 have I:=A.le;have H:=A.capb;have F:=zh A.len;have s:=zh ((Below.refl w.heap.size w).alloc (Nat.le_refl _) (.cells (zR r) 24));have u:=zh (Yw _ a n cap l (A.later s.o));by_cases g:z9 l=0
 ·have B:yI l r=z8 (wV n r.queue) r:=by rw [yI,if_pos g,F.o]
  rw [B];have v:Zh (∀ c:World,Below (w.alloc (.cells (zR r) 24)).heap.size (w.alloc (.cells (zR r) 24)) c->c.cell? (zA w.heap.size 0)=some (zI r.queue)/\c.cell? (zA w.heap.size 1)=some (zI r.fr)/\c.cell? (zA w.heap.size 2)=some (zI r.un)/\c.cell? (zA w.heap.size 3)=some (zI r.kind)/\c.cell? (zA w.heap.size 4)=some (.slice r.pa r.pn r.pc)) :=
   fun c b=>⟨cell_later b (by go_simp),cell_later b (by go_simp),cell_later b (by go_simp),cell_later b (by go_simp),cell_later b (by go_simp)⟩
  obtain ⟨x,f⟩:∃ x:Int,z8 (wV n r.queue) r=x:=⟨_,rfl⟩;rw [f];have y:=zh f;clear f B;cases m:yW r.kind 1 4 with
  | false =>
   have f:Zh (7=x):=(by show 7=x;rw [<-y.o,z8,m];rfl);go_enter Tryz.func106,Tryz.ntmps106;go_wp2_with fail
   refine u.o.mono ?_;rintro e c ⟨rfl,b⟩;rw [g];have i:=zh (za s.o b);obtain ⟨p,c1,c2,c3,c4⟩:=v.o c b;clear b;go_wp2_with (go_at_call 67;refine (ZH _ _).mono ?_;rintro e w' ⟨rfl,j⟩;rw [j,m])
   go_ret;exact ⟨yK f.o,i.o⟩
  | true =>
  cases q:yW r.ps.length 1 3 with
  | false =>
   have f:Zh (2=x):=(by show 2=x;rw [<-y.o,z8,m,q];rfl);go_enter Tryz.func106,Tryz.ntmps106;go_wp2_with fail
   refine u.o.mono ?_;rintro e c ⟨rfl,b⟩;rw [g];have i:=zh (za s.o b);obtain ⟨p,c1,c2,c3,c4⟩:=v.o c b;clear b;go_wp2_with (go_at_call 67;refine (ZH _ _).mono ?_;rintro e w' ⟨rfl,j⟩;rw [j,m])
   refine (wM c r (h.later i.o)).mono ?_;rintro e k ⟨rfl,d⟩;rw [q];have t:=zh (za i.o d);clear d;go_wp2;go_ret;exact ⟨yK f.o,t.o⟩
  | true =>
  cases z:yW r.queue 0 ((n:Int)-1) with
  | false =>
   have f:Zh (6=x):=(by show 6=x;rw [<-y.o,z8,m,q,wV,z];rfl);go_enter Tryz.func106,Tryz.ntmps106;go_wp2_with fail
   refine u.o.mono ?_;rintro e c ⟨rfl,b⟩;rw [g];have i:=zh (za s.o b);obtain ⟨p,c1,c2,c3,c4⟩:=v.o c b;have C:=zh (fun k (d:zL c k)=>v.o k (za b d));clear b;go_wp2_with (go_at_call 67;refine (ZH _ _).mono ?_;rintro e w' ⟨rfl,j⟩;rw [j,m])
   refine (wM c r (h.later i.o)).mono ?_;rintro e k ⟨rfl,d⟩;rw [q];have t:=zh (za i.o d);clear p c1 c2 c3 c4;obtain ⟨p,c1,c2,c3,c4⟩:=C.o k d;clear d;go_wp2_with (go_at_call 33;refine (zo _ _ _ _).mono ?_;rintro e w' ⟨rfl,j⟩;rw [j,z])
   go_ret;exact ⟨yK f.o,t.o⟩
  | true =>
   have f:Zh ((if yJ r=true then (0:Int) else 3)=x):=(by show (if yJ r=true then (0:Int) else 3)=x;rw [<-y.o,z8,m,q,wV,z];rfl);have G:0<r.pn:=(by have:=of_decide_eq_true q;have:=h.len;omega);go_enter Tryz.func106,Tryz.ntmps106;go_wp2_with fail
   refine u.o.mono ?_;rintro e c ⟨rfl,b⟩;rw [g];have i:=zh (za s.o b);obtain ⟨p,c1,c2,c3,c4⟩:=v.o c b;have C:=zh (fun k (d:zL c k)=>v.o k (za b d));clear b;go_wp2_with (go_at_call 67;refine (ZH _ _).mono ?_;rintro e w' ⟨rfl,j⟩;rw [j,m])
   refine (wM c r (h.later i.o)).mono ?_;rintro e k ⟨rfl,d⟩;rw [q];have t:=zh (za i.o d);clear p c1 c2 c3 c4;obtain ⟨p,c1,c2,c3,c4⟩:=C.o k d;clear d;go_wp2_with (go_at_call 33;refine (zo _ _ _ _).mono ?_;rintro e w' ⟨rfl,j⟩;rw [j,z])
   refine (Vh k r (h.later t.o) G).mono ?_;rintro e J ⟨rfl,D⟩;rw [f.o];have E:=zh (za t.o D);clear D;go_wp2;go_ret;exact ⟨rfl,E.o⟩
 ·have B:yI l r=z9 l:=by rw [yI,if_neg g]
  rw [B];obtain ⟨x,f⟩:=qA (z9 l);rw [f] at g u;rw [f];go_enter Tryz.func106,Tryz.ntmps106;go_wp2_with fail
  refine u.o.mono ?_;rintro e c ⟨rfl,b⟩;have i:=zh (za s.o b);clear b;go_wp2;go_ret;exact ⟨rfl,i.o⟩
theorem Ub (w:World) (r:Rq) (h:zH w r) :
 zC 149 #[.agg #[zI r.queue,zI r.fr,zI r.un,zI r.kind,.slice r.pa r.pn r.pc]] w fun e w'=>e=.returned (.bool (decide (z8 false r=0)))/\Below w.heap.size w w':=by
 have c:=zh ((Below.refl w.heap.size w).alloc (Nat.le_refl _) (.cells (zR r) 24));have p:Zh (∀ a:World,Below (w.alloc (.cells (zR r) 24)).heap.size (w.alloc (.cells (zR r) 24)) a->a.cell? (zA w.heap.size 0)=some (zI r.queue)/\a.cell? (zA w.heap.size 1)=some (zI r.fr)/\a.cell? (zA w.heap.size 2)=some (zI r.un)/\a.cell? (zA w.heap.size 3)=some (zI r.kind)/\a.cell? (zA w.heap.size 4)=some (.slice r.pa r.pn r.pc)) :=
  fun a d=>⟨cell_later d (by go_simp),cell_later d (by go_simp),cell_later d (by go_simp),cell_later d (by go_simp),cell_later d (by go_simp)⟩
 cases f:yW r.kind 1 4 with
 | false =>
  have j:decide (z8 false r=0)=false:=by apply decide_eq_false;rw [zv,f];simp
  rw [j];go_enter Tryz.func149,Tryz.ntmps149;go_wp2_with (go_at_call 67;refine (ZH _ _).mono ?_;rintro e w' ⟨rfl,i⟩;rw [i,f])
  go_ret;exact ⟨rfl,c.o⟩
 | true =>
 cases g:yW r.ps.length 1 3 with
 | false =>
  have j:decide (z8 false r=0)=false:=by apply decide_eq_false;rw [zv,g];simp
  rw [j];go_enter Tryz.func149,Tryz.ntmps149;go_wp2_with (go_at_call 67;refine (ZH _ _).mono ?_;rintro e w' ⟨rfl,i⟩;rw [i,f])
  refine (wM _ r (h.later c.o)).mono ?_;rintro e l ⟨rfl,b⟩;rw [g];have k:=zh (za c.o b);clear b;go_wp2;go_ret;exact ⟨rfl,k.o⟩
 | true =>
  have s:0<r.pn:=by have:=of_decide_eq_true g;have:=h.len;omega
  have j:Zh (decide (z8 false r=0)=yJ r):=by show decide (z8 false r=0)=yJ r;rw [Bool.eq_iff_iff,decide_eq_true_iff,zv,f,g];simp
  rw [j.o];cases q:yJ r
  all_goals
   go_enter Tryz.func149,Tryz.ntmps149;go_wp2_with (go_at_call 67;refine (ZH _ _).mono ?_;rintro e w' ⟨rfl,i⟩;rw [i,f])
   refine (wM _ r (h.later c.o)).mono ?_;rintro e l ⟨rfl,b⟩;rw [g];have k:=zh (za c.o b);obtain ⟨t,c1,c2,c3,c4⟩:=p.o l b;clear b;go_wp2_with fail
   refine (Vh l r (h.later k.o) s).mono ?_;rintro e u ⟨rfl,m⟩;rw [q];have n:=zh (za k.o m);clear m;go_wp2;go_ret;exact ⟨rfl,n.o⟩
theorem PL (w:World) (r:Rq) (h:zH w r) (ab ad bn bc:Nat) (b:zd) (A:RunsIn w (zO ab ad) bn bc b) (U:z8 false r=0) (a8:0<bn) :
 zC 148 #[.agg #[zI r.queue,zI r.fr,zI r.un,zI r.kind,.slice r.pa r.pn r.pc],.slice (zO ab ad) bn bc] w fun e w'=>e=.returned (.bool (xB r b))/\Below w.heap.size w w':=by
 have p:=zh A.len;have bm:=A.le;have bj:=A.capb;have a7:=of_decide_eq_true (zv.1 U).2.1;have aT:=h.len;have a9:0<r.pn:=by omega
 have bp:r.pn<=3:=by omega
 have z:=zh aT;clear aT a7;obtain ⟨H,I,av,aS⟩:=h.cells a9;have al:=zh ((Below.refl w.heap.size w).alloc (Nat.le_refl _) (.cells #[zI r.queue,zI r.fr,zI r.un,zI r.kind,.slice (zO H I) r.pn r.pc] 24));have aa:=zh fun y (A:zL w y)=>Ub y r (h.later A);rw [av] at aa;rw [av];have aL:Zh (∀ X:World,Below (w.alloc (.cells #[zI r.queue,zI r.fr,zI r.un,zI r.kind,.slice (zO H I) r.pn r.pc] 24)).heap.size (w.alloc (.cells #[zI r.queue,zI r.fr,zI r.un,zI r.kind,.slice (zO H I) r.pn r.pc] 24)) X->X.cell? (zA w.heap.size 0)=some (zI r.queue)/\X.cell? (zA w.heap.size 1)=some (zI r.fr)/\X.cell? (zA w.heap.size 2)=some (zI r.un)/\X.cell? (zA w.heap.size 3)=some (zI r.kind)/\X.cell? (zA w.heap.size 4)=some (.slice (zO H I) r.pn r.pc)) :=
  fun X t=>⟨cell_later t (by go_simp),cell_later t (by go_simp),cell_later t (by go_simp),cell_later t (by go_simp),cell_later t (by go_simp)⟩
 obtain ⟨bg,bv,e,aP⟩:=A.cells a8;cases e
 have N:=zh U;have aI:=zh (xA U);have aV:decide (z8 false r=0)=true:=by rw [U];rfl
 rw [aV] at aa;have bq:IntKind.i64.wrap ((r.pn:Int)-1)=r.pn-1:=by rw [IntKind.wrap_i64];omega
 have an:=zh aP;have aF:=zh aS;clear aP aS aV U av h A;go_enter Tryz.func148,Tryz.ntmps148;go_wp2_with fail
 refine (aa.o _ al.o).mono ?_;rintro e y ⟨rfl,t⟩;have l:=zh (za al.o t);have aq:=zh fun X (a4:zL y X)=>aL.o X (za t a4);have O:Zh (∀ i,i<bn->y.cell? (zA ab (ad+i*2))=some (zI (zp b i))/\y.cell? (zA ab (ad+i*2+1))=some (zI (rN b i))):=fun i ah=>⟨cell_later l.o (an.o i ah).1,cell_later l.o (an.o i ah).2⟩;have aE:Zh (∀ i,i<r.pn->y.cell? (zA H (I+i*2))=some (zI (zp r.ps i))):=fun i ah=>cell_later l.o (aF.o i ah).1;clear t an aF aL al aa;go_wp2_with fail
 go_loopw [5] (fun D wr=>∃ j:Nat,D=zI j/\j<=bn/\zQ (yl r b) j=true/\zL y wr) (fun D _=>bn-(intOf D).toNat)
 case atStart=>exact ⟨0,rfl,by omega,rfl,Below.refl _ _⟩
 case round =>
  obtain ⟨j,rfl,aQ,R,S⟩:=hrel;have J:=zh R;have c:=zh S;clear R S;by_cases m:j<bn
  ·have a6:(j:Int)<bn:=(by omega);have aM:=cell_later c.o (O.o j m).1;have ae:=cell_later c.o (O.o j m).2;obtain ⟨ar,c1,c2,c3,c4⟩:=aq.o wr c.o;obtain ⟨bd,aw⟩:∃ x,zp b j=x:=⟨_,rfl⟩;obtain ⟨a,B⟩:∃ x,rN b j=x:=⟨_,rfl⟩;rw [aw] at aM;rw [B] at ae;have F:=zh aw;have u:=zh B;clear aw B;cases g:yW bd 0 ((r.pn:Int)-1) with
   | false =>
    have d:=zh (wE p m (show yl r b j=false by rw [yl,xt,F.o,<-z.o,g];rfl));go_wp2_with fail
    go_quiet ((go_at_call 33;exact Calls.quiet_of_same (zo _ _ _ _)))
    go_wp2;go_ret;exact ⟨zm d.o.symm,za l.o (_root_.Go.below_drewN c.o _)⟩
   | true =>
    have aU:=of_decide_eq_true g;obtain ⟨P,rfl⟩:=Int.eq_ofNat_of_zero_le aU.1;have a3:P<r.pn:=(by omega);have bi:(P:Int)<r.pn:=(by omega);obtain ⟨L,v⟩:=qA (zp r.ps P);have ap:Zh (1<=L/\L<=24):=by
     have:=yh N.o (k:=P) (by have:=z.o;omega);rw [v] at this;exact ⟨this.1,this.2.1⟩
    have aW:wr.cell? (zA H (I+P*2))=some (zI L):=(by rw [<-v];exact cell_later c.o (aE.o P a3));have E:Zh (lenOf r b j=L):=(by show lenOf r b j=L;rw [lenOf,F.o,Int.toNat_natCast,v]);have br:IntKind.i64.wrap (r.un-L)=r.un-L:=(by have:=aI.o;have:=ap.o;rw [IntKind.wrap_i64];omega);clear v aU;cases j with
    | zero =>
     simp only [Nat.zero_mul,Nat.add_zero] at aM ae;have a1:decide ((0:Int)<0)=false:=(by simp);by_cases n:a<r.fr
     ·have V:decide (a<r.fr)=true:=decide_eq_true n;have d:=zh (wE p m (show yl r b (0)=false by
       have:xF r b (0)=false:=decide_eq_false (by rw [u.o];omega);rw [yl,this];simp))
      go_wp2_with fail
      go_quiet ((go_at_call 33;exact Calls.quiet_of_same (zo _ _ _ _)))
      go_wp2_with fail
      go_quiet (fail)
      go_wp2;go_ret;exact ⟨zm d.o.symm,za l.o (_root_.Go.below_drewN (_root_.Go.below_drewN c.o _) _)⟩
     have V:decide (a<r.fr)=false:=decide_eq_false n;by_cases W:r.un<a
     ·have aC:decide (r.un<a)=true:=decide_eq_true W;have d:=zh (wE p m (show yl r b (0)=false by
       have:xF r b (0)=false:=decide_eq_false (by rw [u.o,E.o];have:=ap.o;omega);rw [yl,this];simp))
      go_wp2_with fail
      go_quiet ((go_at_call 33;exact Calls.quiet_of_same (zo _ _ _ _)))
      go_wp2_with fail
      go_quiet (fail)
      go_wp2;go_ret;exact ⟨zm d.o.symm,za l.o (_root_.Go.below_drewN (_root_.Go.below_drewN c.o _) _)⟩
     have aC:decide (r.un<a)=false:=decide_eq_false W;by_cases Y:r.un-L<a
     ·have aD:decide (r.un-L<a)=true:=decide_eq_true Y;have d:=zh (wE p m (show yl r b (0)=false by
       have:xF r b (0)=false:=decide_eq_false (by rw [u.o,E.o];omega);rw [yl,this];simp))
      go_wp2_with fail
      go_quiet ((go_at_call 33;exact Calls.quiet_of_same (zo _ _ _ _)))
      go_wp2_with fail
      go_quiet (fail)
      go_wp2;go_ret;exact ⟨zm d.o.symm,za l.o (_root_.Go.below_drewN (_root_.Go.below_drewN c.o _) _)⟩
     have aD:decide (r.un-L<a)=false:=decide_eq_false Y;have am:Zh (zQ (yl r b) (0+1)=true):=by
      show zQ (yl r b) (0+1)=true;have af:xt r b (0)=true:=(by rw [xt,F.o,<-z.o];exact g);have ag:xF r b (0)=true:=decide_eq_true (by rw [u.o,E.o];omega);rw [zQ,J.o,yl,af,ag];rfl
     go_wp2_with fail
     go_quiet ((go_at_call 33;exact Calls.quiet_of_same (zo _ _ _ _)))
     go_wp2_with fail
     go_quiet (fail)
     go_wp2;go_roundw
     case rel=>exact ⟨0+1,by go_num,by omega,am.o,_root_.Go.below_drewN c.o _⟩
     case measure=>simp [intOf];omega
    | succ k =>
     have a1:decide ((0:Int) < ↑k+1)=true:=(by simp);have a5:(k:Int)<bn:=(by omega);have bb:IntKind.i64.wrap (k:Int)=k:=(by rw [IntKind.wrap_i64];omega);have aZ:=cell_later c.o (O.o k (by omega)).1;obtain ⟨aB,ax⟩:∃ x,zp b k=x:=⟨_,rfl⟩;rw [ax] at aZ;have aG:=zh ax;clear ax;by_cases aN:(P:Int)<=aB
     ·have a2:decide ((P:Int)<=aB)=true:=decide_eq_true aN;have d:=zh (wE p m (show yl r b (k+1)=false by
       have:decide (zp b (k+1-1)<zp b (k+1))=false:=decide_eq_false (by rw [Nat.add_sub_cancel,F.o,aG.o];omega);rw [yl,this];simp))
      go_wp2_with fail
      go_quiet ((go_at_call 33;exact Calls.quiet_of_same (zo _ _ _ _)))
      go_wp2;go_ret;exact ⟨zm d.o.symm,za l.o (_root_.Go.below_drewN c.o _)⟩
     have a2:decide ((P:Int)<=aB)=false:=decide_eq_false aN;by_cases n:a<r.fr
     ·have V:decide (a<r.fr)=true:=decide_eq_true n;have d:=zh (wE p m (show yl r b (k+1)=false by
       have:xF r b (k+1)=false:=decide_eq_false (by rw [u.o];omega);rw [yl,this];simp))
      go_wp2_with fail
      go_quiet ((go_at_call 33;exact Calls.quiet_of_same (zo _ _ _ _)))
      go_wp2_with fail
      go_quiet (fail)
      go_wp2;go_ret;exact ⟨zm d.o.symm,za l.o (_root_.Go.below_drewN (_root_.Go.below_drewN c.o _) _)⟩
     have V:decide (a<r.fr)=false:=decide_eq_false n;by_cases W:r.un<a
     ·have aC:decide (r.un<a)=true:=decide_eq_true W;have d:=zh (wE p m (show yl r b (k+1)=false by
       have:xF r b (k+1)=false:=decide_eq_false (by rw [u.o,E.o];have:=ap.o;omega);rw [yl,this];simp))
      go_wp2_with fail
      go_quiet ((go_at_call 33;exact Calls.quiet_of_same (zo _ _ _ _)))
      go_wp2_with fail
      go_quiet (fail)
      go_wp2;go_ret;exact ⟨zm d.o.symm,za l.o (_root_.Go.below_drewN (_root_.Go.below_drewN c.o _) _)⟩
     have aC:decide (r.un<a)=false:=decide_eq_false W;by_cases Y:r.un-L<a
     ·have aD:decide (r.un-L<a)=true:=decide_eq_true Y;have d:=zh (wE p m (show yl r b (k+1)=false by
       have:xF r b (k+1)=false:=decide_eq_false (by rw [u.o,E.o];omega);rw [yl,this];simp))
      go_wp2_with fail
      go_quiet ((go_at_call 33;exact Calls.quiet_of_same (zo _ _ _ _)))
      go_wp2_with fail
      go_quiet (fail)
      go_wp2;go_ret;exact ⟨zm d.o.symm,za l.o (_root_.Go.below_drewN (_root_.Go.below_drewN c.o _) _)⟩
     have aD:decide (r.un-L<a)=false:=decide_eq_false Y;have am:Zh (zQ (yl r b) (k+1+1)=true):=by
      show zQ (yl r b) (k+1+1)=true;have af:xt r b (k+1)=true:=(by rw [xt,F.o,<-z.o];exact g);have ag:xF r b (k+1)=true:=decide_eq_true (by rw [u.o,E.o];omega);rw [zQ,J.o,yl,af,ag];simp only [Nat.add_sub_cancel];rw [F.o,aG.o];simp;omega
     go_wp2_with fail
     go_quiet ((go_at_call 33;exact Calls.quiet_of_same (zo _ _ _ _)))
     go_wp2_with fail
     go_quiet (fail)
     go_wp2;go_roundw
     case rel=>exact ⟨k+1+1,by go_num,by omega,am.o,_root_.Go.below_drewN c.o _⟩
     case measure=>simp [intOf];omega
  obtain rfl:bn=j:=by omega
  obtain ⟨ak,az⟩:∃ ak:World,ak=wr:=⟨_,rfl⟩;rw [<-az] at c;rw [<-az];clear az wr;obtain ⟨ar,c1,c2,c3,c4⟩:=aq.o ak c.o;by_cases C:r.kind=2
  ·have d:Zh (xB r b=decide (bn=1)):=by
    show xB r b=decide (bn=1);rw [xB,N.o,if_pos C,<-p.o,J.o];simp
   rw [C] at c3;go_wp2;go_ret;refine ⟨zm ?_,za l.o c.o⟩;rw [d.o,Bool.eq_iff_iff];simp;omega
  by_cases aA:bn=r.pn
  ·have d:Zh (xB r b=zQ (xg r b) bn):=by
    show xB r b=zQ (xg r b) bn;rw [xB,N.o,if_neg C,<-p.o,<-z.o,J.o,aA];simp
   have aH:Zh (∀ j,j<bn->xg r b j=false->xB r b=false):=fun j aQ ba=>by rw [d.o];exact yO ba bn aQ
   subst aA;have bt:(r.kind==2)=false:=(by simp [C]);have be:=zh C;clear C;have aY:Zh (∀ k,k<r.pn->(0<=rN b k/\rN b k<=48)/\(1<=zp r.ps k/\zp r.ps k<=24)):=fun k ai=>by
    have f:=VY (xv.1 J.o k ai);have af:=wR f.2.2;have ag:=Xm N.o f.1;have bh:=aI.o;have aO:=yh N.o (k:=k) (by have:=z.o;omega);exact ⟨by omega,aO.1,aO.2.1⟩
   go_wp2_with fail
   go_loopw [6,7] (fun D _ wr=>∃ k:Nat,D=zI ((k+1:Nat):Int)/\k<r.pn/\zQ (xg r b) (k+1)=true/\zL ak wr) (fun D _ _=>r.pn-(intOf D).toNat)
   case atStart=>exact ⟨0,rfl,by omega,by simp [zQ,xg],Below.refl _ _⟩
   case round =>
    obtain ⟨k,rfl,ai,R,S⟩:=hrel;have Z:=zh R;have q:=zh S;clear R S ar c1 c2 c3 c4;by_cases m:k+1<r.pn
    ·have a6:(k:Int)+1<r.pn:=(by omega);have a5:(k:Int)<r.pn:=(by omega);have bl:(k:Int)<r.pn:=(by omega);have bb:IntKind.i64.wrap (k:Int)=k:=(by rw [IntKind.wrap_i64];omega);have ae:=cell_later (za c.o q.o) (O.o (k+1) m).2;have a0:=cell_later (za c.o q.o) (O.o k ai).2;have aW:=cell_later (za c.o q.o) (aE.o k (by omega));obtain ⟨ar,c1,c2,c3,c4⟩:=aq.o wr (za c.o q.o);have au:=aY.o k ai;obtain ⟨a,B⟩:∃ x,rN b (k+1)=x:=⟨_,rfl⟩;obtain ⟨s,ay⟩:∃ x,rN b k=x:=⟨_,rfl⟩;obtain ⟨L,v⟩:∃ x,zp r.ps k=x:=⟨_,rfl⟩;rw [B] at ae;rw [ay] at a0 au;rw [v] at aW au;have bs:IntKind.i64.wrap (s+L)=s+L:=(by rw [IntKind.wrap_i64];omega);have Q:Zh (xg r b (k+1)=if r.kind=3 then decide (s+L<=a) else if r.kind=4 then decide (a=s+L) else true):=by
      show xg r b (k+1)=if r.kind=3 then decide (s+L<=a) else if r.kind=4 then decide (a=s+L) else true;rw [xg,Nat.add_sub_cancel,B,ay,v];simp
     clear B ay v au;by_cases G:r.kind=3
     ·rw [G] at c3;have aJ:=zh G;clear G;by_cases n:a<s+L
      ·have ao:=zh (aH.o (k+1) m (by rw [Q.o,if_pos aJ.o];exact decide_eq_false (by omega)));go_wp2_with fail
       go_quiet (fail)
       go_wp2;go_ret;exact ⟨zm ao.o.symm,za l.o (za c.o (_root_.Go.below_drewN q.o _))⟩
      have M:Zh (zQ (xg r b) (k+1+1)=true):=by
       show zQ (xg r b) (k+1+1)=true;rw [zQ,Z.o,Q.o,if_pos aJ.o];simp;omega
      go_wp2_with fail
      go_quiet (fail)
      go_wp2;go_roundw
      case rel=>exact ⟨k+1,by go_num,by omega,M.o,_root_.Go.below_drewN q.o _⟩
      case measure=>simp [intOf];omega
     by_cases aj:r.kind=4
     ·rw [aj] at c3;have aK:=zh aj;clear aj;by_cases n:a=s+L
      ·have M:Zh (zQ (xg r b) (k+1+1)=true):=by
        show zQ (xg r b) (k+1+1)=true;rw [zQ,Z.o,Q.o,if_neg G,if_pos aK.o,decide_eq_true n];rfl
       have V:(a != s+L)=false:=(by simp [n]);have bf:=zh n;clear n;go_wp2_with fail
       go_quiet (fail)
       go_wp2;go_roundw
       case rel=>exact ⟨k+1,by go_num,by omega,M.o,_root_.Go.below_drewN q.o _⟩
       case measure=>simp [intOf];omega
      have ao:=zh (aH.o (k+1) m (by rw [Q.o,if_neg G,if_pos aK.o];exact decide_eq_false n));have V:(a != s+L)=true:=(by simp [n]);go_wp2_with fail
      go_quiet (fail)
      go_wp2;go_ret;exact ⟨zm ao.o.symm,za l.o (za c.o (_root_.Go.below_drewN q.o _))⟩
     have M:Zh (zQ (xg r b) (k+1+1)=true):=by
      show zQ (xg r b) (k+1+1)=true;rw [zQ,Z.o,Q.o,if_neg G,if_neg aj];rfl
     go_wp2_with fail
     go_quiet (fail)
     go_wp2;go_roundw
     case rel=>exact ⟨k+1,by go_num,by omega,M.o,_root_.Go.below_drewN q.o _⟩
     case measure=>simp [intOf];omega
    have aR:k+1=r.pn:=(by omega);have aX:=zh aR;have bo:¬(k:Int)+1<r.pn:=(by omega);clear aR;go_wp2;go_ret;exact ⟨zm (by rw [d.o,<-aX.o,Z.o]),za l.o (za c.o q.o)⟩
  have d:Zh (xB r b=false):=by
   show xB r b=false;rw [xB,if_neg C,<-p.o,<-z.o,decide_eq_false aA];simp
  have bu:¬(bn:Int)=r.pn:=by omega
  go_wp2;go_ret;exact ⟨zm d.o.symm,za l.o c.o⟩
theorem OM (w:World) (r:Rq) (h:zH w r) (ba:Option Addr) (bn bc:Nat) (b:zd) (c:RunsIn w ba bn bc b) :
 zC 148 #[.agg #[zI r.queue,zI r.fr,zI r.un,zI r.kind,.slice r.pa r.pn r.pc],.slice ba bn bc] w fun e w'=>e=.returned (.bool (meets r b))/\Below w.heap.size w w':=by
 rw [<-M7];have n:=zh c.len;have A:=c.le;have z:=c.capb;have j:=zh ((Below.refl w.heap.size w).alloc (Nat.le_refl _) (.cells (zR r) 24));have l:=zh fun i (c:zL w i)=>Ub i r (h.later c);have p:=zh (wn w r);by_cases a:z8 false r=0
 ·by_cases m:0<bn
  ·obtain ⟨q,s,rfl,_⟩:=c.cells m;exact PL w r h q s bn bc b c a m
  obtain rfl:bn=0:=by omega
  have t:=of_decide_eq_true (zv.1 a).2.1;have u:=h.len;have B:¬(0:Int)=r.pn:=by omega
  have C:¬(r.pn:Int)=0:=by omega
  have f:xB r b=false:=by
   rw [xB,<-n.o,decide_eq_false (show ¬(0:Nat)=1 by omega),decide_eq_false (show ¬0=r.ps.length by omega)];simp
  rw [f];have g:decide (z8 false r=0)=true:=by rw [a];rfl
  rw [g] at l;clear g a f t u;go_enter Tryz.func148,Tryz.ntmps148;go_wp2_with fail
  refine (l.o _ j.o).mono ?_;rintro e i ⟨rfl,d⟩;have k:=zh (za j.o d);obtain ⟨y,c1,c2,c3,c4⟩:=p.o i d;clear d;go_wp2_with fail
  go_loop [5] (fun x=>x=zI 0) (fun _=>0)
  case atStart=>rfl
  subst hrel;by_cases v:r.kind=2
  ·rw [v] at c3;go_wp2;go_ret;exact ⟨rfl,k.o⟩
  go_wp2;go_ret;exact ⟨rfl,k.o⟩
 ·have f:xB r b=false:=by rw [xB,decide_eq_false a];rfl
  rw [f];have g:decide (z8 false r=0)=false:=decide_eq_false a;rw [g] at l;clear g f a;go_enter Tryz.func148,Tryz.ntmps148;go_wp2_with fail
  refine (l.o _ j.o).mono ?_;rintro e i ⟨rfl,d⟩;have k:=zh (za j.o d);clear d;go_wp2;go_ret;exact ⟨rfl,k.o⟩
end Go.Proofs.YtckpdfkobdgjeaaGreatDoor
