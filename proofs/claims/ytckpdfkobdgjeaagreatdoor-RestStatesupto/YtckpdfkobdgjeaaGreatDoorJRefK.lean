/- The reference's checks, carried over from the texts of the requests' and trees' laws: CheckTree, CheckReq, MeetsOf and what they call. -/
import Derived.Test.YtckpdfkobdgjeaaGreatDoorJAll21
import Derived.BigQuiet
namespace Go.Proofs.YtckpdfkobdgjeaaGreatDoor
set_option maxRecDepth 100000
set_option maxHeartbeats 4000000
open Go.RowKit
set_option linter.unusedSectionVars false
variable [Inhabited Mk]
theorem zo (n b a:Int) (w:World):zC 33 #[zI n,zI b,zI a] w fun e w'=>e=.returned (.bool (yW n b a))/\w'=w:=by
 go_enter Tryz.func33,Tryz.ntmps33;go_wp2
 all_goals
  go_ret;exact ⟨zm (by simp [yW];omega),rfl⟩
theorem Yl (n:Int) (w:World):zC 112 #[zI n] w fun e w'=>e=.returned (.bool (yW n 0 47))/\w'=w:=by
 go_enter Tryz.func112,Tryz.ntmps112;go_wp2_with (go_at_call 33;refine (zo _ _ _ _).mono ?_;rintro e w' ⟨rfl,rfl⟩)
 go_ret;exact ⟨rfl,rfl⟩
theorem R8 (a b:Int) (w:World):zC 113 #[zI a,zI b] w fun e w'=>e=.returned (.bool (Xw a b))/\w'=w:=by
 cases c:yW a 0 48 with
 | false =>
  go_enter Tryz.func113,Tryz.ntmps113;go_wp2_with (go_at_call 33;refine (zo _ _ _ _).mono ?_;rintro e w' ⟨rfl,rfl⟩)
  go_ret;refine ⟨zm ?_,rfl⟩;simp [yW] at c;simp [Xw];omega
 | true =>
  cases d:yW b 0 48 with
  | false =>
   go_enter Tryz.func113,Tryz.ntmps113;go_wp2_with (go_at_call 33;refine (zo _ _ _ _).mono ?_;rintro e w' ⟨rfl,rfl⟩)
   go_ret;refine ⟨zm ?_,rfl⟩;simp [yW] at c d;simp [Xw];omega
  | true =>
   go_enter Tryz.func113,Tryz.ntmps113;go_wp2_with (go_at_call 33;refine (zo _ _ _ _).mono ?_;rintro e w' ⟨rfl,rfl⟩)
   go_ret;refine ⟨zm ?_,rfl⟩;simp [yW] at c d;simp only [Xw];rw [Bool.eq_iff_iff];simp;omega
theorem Qr (w:World) (b q n z:Nat) (l:zd) (h:RunsIn w (zO b q) n z l) (I:0<n) :
 zC 66 #[.slice (zO b q) n z] w fun e w'=>e=.returned (.bool (xe l))/\∃ d,w'=w.drewN d:=by
 obtain ⟨hn,V,Q,R,c⟩:=h;have p:Zh (n=l.length):=hn;clear hn;obtain ⟨J,Y,e,c⟩:=c (by omega);cases e
 have W:(0:Int)<n:=by omega
 go_enter Tryz.func66,Tryz.ntmps66;go_wp2;go_loopw [3] (fun s wr=>∃ j:Nat,s=zI j/\j<=n/\(∀ i,i<j->XW l i)/\∃ d,wr=w.drewN d) (fun s _=>n-(intOf s).toNat)
 case atStart=>exact ⟨0,rfl,by omega,fun i S=>by omega,0,rfl⟩
 case round =>
  obtain ⟨j,rfl,P,C,x⟩:=hrel;have u:Zh (∀ i,i<j->XW l i):=C;have g:Zh (∃ d,wr=w.drewN d):=x;clear C;have f:∀ a,wr.cell? a=w.cell? a:=by obtain ⟨d,rfl⟩:=x;exact fun a=>rfl
  clear x;by_cases m:j<n
  ·have H:(j:Int)<n:=(by omega);have D:wr.cell? (zA b (q+j*2))=some (zI (zp l j)):=(f _).trans (c j m).1;have c1:wr.cell? (zA b (q+j*2+1))=some (zI (rN l j)):=(f _).trans (c j m).2;cases A:yW (zp l j) 0 47 with
   | false =>
    clear f c;go_wp2;go_quiet ((first | (go_at_call 112;exact Calls.quiet_of_same (Yl _ _)) | (go_at_call 33;exact Calls.quiet_of_same (zo _ _ _ _))))
    go_wp2;go_ret;exact ⟨zm (WQ p m (Hg u A)).symm,xM g _⟩
   | true =>
    cases r:bdd (rN l j) with
    | false =>
     have E:yW (rN l j) (-1048576) 1048576=false:=r;clear f c;go_wp2;go_quiet ((first | (go_at_call 112;exact Calls.quiet_of_same (Yl _ _)) | (go_at_call 33;exact Calls.quiet_of_same (zo _ _ _ _))))
     go_wp2;go_ret;exact ⟨zm (WQ p m (fun h=>by have:=h.2.2.1;simp [r] at this)).symm,xM g _⟩
    | true =>
     have E:yW (rN l j) (-1048576) 1048576=true:=r;cases j with
     | zero =>
      simp only [Nat.zero_mul,Nat.add_zero] at D c1;clear f c;by_cases t:zp l 0=0
      ·have G:(zp l 0 != 0)=false:=(by simp [t]);have y:Zh (zp l 0=0):=t;clear t;go_wp2;go_quiet ((first | (go_at_call 112;exact Calls.quiet_of_same (Yl _ _)) | (go_at_call 33;exact Calls.quiet_of_same (zo _ _ _ _))))
       go_wp2;go_roundw
       case rel=>exact ⟨1,rfl,by omega,UI u ⟨fun _=>y.o,by rw [y.o];decide,r,fun h=>by omega⟩,xM g _⟩
       case measure=>simp [intOf];omega
      have G:(zp l 0 != 0)=true:=(by simp [t]);go_wp2;go_quiet ((first | (go_at_call 112;exact Calls.quiet_of_same (Yl _ _)) | (go_at_call 33;exact Calls.quiet_of_same (zo _ _ _ _))))
      go_wp2;go_ret;exact ⟨zm (WQ p m (fun h=>t (h.1 rfl))).symm,xM g _⟩
     | succ k =>
      have N:decide ((0:Int) < ↑k+1)=true:=(by simp);have O:(((k:Int)+1)==0)=false:=beq_eq_false_iff_ne.2 (by omega);have U:(k:Int)<n:=(by omega);have X:IntKind.i64.wrap (k:Int)=k:=(by rw [IntKind.wrap_i64];omega);have L:wr.cell? (zA b (q+k*2))=some (zI (zp l k)):=(f _).trans (c k (by omega)).1;have M:wr.cell? (zA b (q+k*2+1))=some (zI (rN l k)):=(f _).trans (c k (by omega)).2;clear f c;by_cases B:zp l (k+1)<=zp l k
      ·have F:decide (zp l (k+1)<=zp l k)=true:=(by simpa using B);go_wp2;go_quiet ((first | (go_at_call 112;exact Calls.quiet_of_same (Yl _ _)) | (go_at_call 33;exact Calls.quiet_of_same (zo _ _ _ _))))
       go_wp2;go_ret;exact ⟨zm (WQ p m (fun h=>by have:=(h.2.2.2 (by omega)).1;simp only [Nat.add_sub_cancel] at this;omega)).symm,xM g _⟩
      have F:decide (zp l (k+1)<=zp l k)=false:=(by simpa using B);go_wp2;go_quiet ((first | (go_at_call 112;exact Calls.quiet_of_same (Yl _ _)) | (go_at_call 33;exact Calls.quiet_of_same (zo _ _ _ _))))
      go_wp2
      ·have v:(rN l k==rN l (k+1))=true:=(by assumption);go_ret;exact ⟨zm (WQ p m (fun h=>by have:=(h.2.2.2 (by omega)).2;simp only [Nat.add_sub_cancel] at this;exact this (eq_of_beq v).symm)).symm,xM g _⟩
      have v:(rN l k==rN l (k+1))=false:=(by assumption);go_roundw
      case rel=>exact ⟨k+1+1,by go_num,by omega,UI u ⟨fun h=>by omega,(of_decide_eq_true A).2 |> fun h=>by omega,r,fun _=>⟨by simp only [Nat.add_sub_cancel];omega,by simp only [Nat.add_sub_cancel];exact (ne_of_beq_false v).symm⟩⟩,xM g _⟩
      case measure=>simp [intOf];omega
  have H:¬(j:Int)<n:=by omega
  obtain rfl:j=n:=by omega
  clear f c;go_wp2;go_ret;exact ⟨zm (by rw [KZ p I u.o]),g.o⟩
theorem Qq (w:World) (a:Option Addr) (b:Nat) :
 zC 66 #[.slice a 0 b] w fun e w'=>e=.returned (.bool (xe []))/\w'=w:=by
 go_enter Tryz.func66,Tryz.ntmps66;go_wp2;go_loop [3] (fun s=>s=zI 0) (fun _=>0)
 case atStart=>rfl
 case round =>
  subst hrel;go_wp2;go_ret;exact ⟨zm (by rfl),rfl⟩
theorem Ul (w:World) (a:Option Addr) (n c:Nat) (l:zd) (h:RunsIn w a n c l) :
 zC 66 #[.slice a n c] w fun e w'=>e=.returned (.bool (xe l))/\∃ d,w'=w.drewN d:=by
 by_cases f:0<n
 ·obtain ⟨b,g,rfl,_⟩:=h.cells f;exact Qr w b g n c l h f
 ·obtain rfl:n=0:=by omega
  obtain rfl:l=[]:=by have:=h.len;exact List.eq_nil_of_length_eq_zero this.symm
  refine (Qq w a c).mono ?_;rintro e w' ⟨rfl,rfl⟩;exact ⟨rfl,0,rfl⟩
theorem SJ (s:ByteArray) (w:World) (l:s.size<=9223372036854775807):zC 41 #[.string s] w fun e w'=>e=.returned (.bool (Zg s))/\w'=w:=by
 go_enter Tryz.func41,Tryz.ntmps41;go_wp2;go_loop [3] (fun c=>∃ k:Nat,c=zI k/\k<=s.size/\Si s k=true) (fun c=>s.size-(intOf c).toNat)
 case atStart=>exact ⟨0,rfl,by omega,rfl⟩
 obtain ⟨k,rfl,i,h⟩:=hrel;have d:Zh (Si s k=true):=h;clear h;by_cases b:k<s.size
 ·have j:(k:Int)<s.size:=by omega
  by_cases f:(s[k].toNat:Int)<97
  ·have a:Zh (MD (ZF s k)=false):=Ik b f;go_wp2;go_ret;exact ⟨zm (UF b a.o).symm,rfl⟩
  by_cases g:(122:Int)<s[k].toNat
  ·have a:Zh (MD (ZF s k)=false):=LH b g;go_wp2;go_ret;exact ⟨zm (UF b a.o).symm,rfl⟩
  have a:Zh (MD (ZF s k)=true):=Il b f g;go_wp2;go_round
  case rel=>exact ⟨k+1,by go_num,by omega,by rw [Si,d.o,a.o];rfl⟩
  case measure=>simp [intOf];omega
 obtain rfl:k=s.size:=by omega
 have e:Zh (yW (s.size:Int) 1 8=Zg s):=by
  show yW (s.size:Int) 1 8=Zg s;rw [Zg,d.o,yW,Bool.eq_iff_iff];simp;omega
 go_wp2_with (go_at_call 33;refine (zo _ _ _ _).mono ?_;rintro e w' ⟨rfl,rfl⟩)
 go_ret;exact ⟨zm e.o,rfl⟩
theorem PC (w:World) (b r n i:Nat) (l:zd) (h:RunsIn w (zO b r) n i l) (u:0<n) :
 zC 42 #[.slice (zO b r) n i] w fun e w'=>e=.returned (.bool (yR l))/\Below w.heap.size w w':=by
 have f:=zh h.len;have A:=h.le;have y:=h.bound;obtain ⟨x,C,e,m⟩:=h.cells u;cases e
 have t:=zh m;clear m;go_enter Tryz.func42,Tryz.ntmps42;go_wp2;go_loop [3] (fun c=>∃ k:Nat,c=zI k/\k<=n/\Xj l k=true) (fun c=>n-(intOf c).toNat)
 case atStart=>exact ⟨0,rfl,by omega,rfl⟩
 case round =>
  obtain ⟨k,rfl,z,p⟩:=hrel;have d:=zh p;clear p;by_cases q:k<n
  ·have B:(k:Int)<n:=(by omega);have c1:=(t.o k q).2;cases g:QV (rN l k) with
   | false =>
    have a:yW (rN l k) 0 50=false:=g;go_wp2_with (go_at_call 33;refine (zo _ _ _ _).mono ?_;rintro e w' ⟨rfl,rfl⟩;rw [a])
    go_ret;exact ⟨zm (by rw [yR,<-f.o,WN g n q];simp),Below.refl _ _⟩
   | true =>
    have a:yW (rN l k) 0 50=true:=g;go_wp2_with (go_at_call 33;refine (zo _ _ _ _).mono ?_;rintro e w' ⟨rfl,v⟩;rw [v,a])
    go_round
    case rel=>exact ⟨k+1,by go_num,by omega,by rw [Xj,d.o,g];rfl⟩
    case measure=>simp [intOf];omega
  obtain rfl:k=n:=by omega
  go_wp2_with fail
  refine (Ul w _ _ _ l h).mono ?_;rintro e D ⟨rfl,j⟩;have s:=zh (yM j);clear j;go_wp2;go_ret;exact ⟨zm (by rw [yR,<-f.o,d.o];simp),s.o⟩
theorem Xx (w:World) (a:Option Addr) (n c:Nat) (l:zd) (h:RunsIn w a n c l) :
 zC 42 #[.slice a n c] w fun e w'=>e=.returned (.bool (yR l))/\Below w.heap.size w w':=by
 by_cases f:0<n
 ·obtain ⟨b,j,rfl,_⟩:=h.cells f;exact PC w b j n c l h f
 ·obtain rfl:n=0:=by omega
  have i:=zh h;obtain rfl:l=[]:=List.eq_nil_of_length_eq_zero h.len.symm;go_enter Tryz.func42,Tryz.ntmps42;go_wp2;go_loop [3] (fun k=>k=zI 0) (fun _=>0)
  case atStart=>rfl
  subst hrel;go_wp2_with fail
  refine (Ul w _ _ _ [] i.o).mono ?_;rintro e m ⟨rfl,d⟩;have g:=zh (yM d);clear d;go_wp2;go_ret;exact ⟨zm (by rfl),g.o⟩
theorem Yw (w:World) (a:Option Addr) (n R:Nat) (l:QL) (h:QsIn w a n R l) :
 zC 16 #[.slice a n R] w fun e w'=>e=.returned (zI (z9 l))/\Below w.heap.size w w':=by
 have hn:=h.len;have ag:=h.capb;have ak:=h.le;cases x:yW l.length 1 5 with
 | false =>
  have ae:z9 l=2:=by simp [z9,x]
  rw [ae];rw [<-hn] at x;have t:=zh hn;clear hn;go_enter Tryz.func16,Tryz.ntmps16;go_wp2_with (go_at_call 33;refine (zo _ _ _ _).mono ?_;rintro e w' ⟨rfl,rfl⟩;rw [x])
  go_ret;exact ⟨rfl,Below.refl _ _⟩
 | true =>
  have D:=zh x;rw [<-hn] at x;have M:=of_decide_eq_true x;have ad:0<n:=by omega
  have af:n<=5:=by omega
  have t:=zh hn;clear hn M;obtain ⟨b,N,rfl,V⟩:=h.cells ad;have A:=zh V;clear V;go_enter Tryz.func16,Tryz.ntmps16;go_wp2_with (go_at_call 33;refine (zo _ _ _ _).mono ?_;rintro e w' ⟨rfl,M⟩;rw [M,x])
  go_loop [3] (fun c=>∃ k:Nat,c=zI k/\k<=n/\Yg (fun q=>Zg q.name) l k=true) (fun c=>n-(intOf c).toNat)
  case atStart=>exact ⟨0,rfl,by omega,rfl⟩
  obtain ⟨k,rfl,W,r⟩:=hrel;have f:=zh r;clear r;by_cases m:k<n
  ·have L:(k:Int)<n:=(by omega);have J:=(A.o k m).1;cases g:Zg (qu l k).name with
   | false =>
    go_wp2_with fail
    refine (SJ _ w (h.names k m)).mono ?_;rintro e w' ⟨rfl,y⟩;rw [y,g];go_wp2;go_ret;exact ⟨yK (Fm D.o (by rw [xC,<-t.o];exact Xg (p:=fun q=>Zg q.name) g n m)).symm,Below.refl _ _⟩
   | true =>
    go_wp2_with fail
    refine (SJ _ w (h.names k m)).mono ?_;rintro e w' ⟨rfl,y⟩;rw [y,g];go_wp2;go_round
    case rel=>exact ⟨k+1,by go_num,by omega,by rw [Yg,f.o,g];rfl⟩
    case measure=>simp [intOf];omega
  obtain rfl:n=k:=by omega
  have E:Zh (xC l=true):=by show xC l=true;rw [xC,<-t.o];exact f.o
  clear f;go_wp2_with fail
  go_loopw [4,5] (fun c _ wr=>∃ j:Nat,c=zI j/\j<=n/\yu l j=true/\∃ d,wr=w.drewN d) (fun c _ _=>n-(intOf c).toNat)
  case atStart=>exact ⟨0,rfl,by omega,rfl,0,rfl⟩
  obtain ⟨j,rfl,aj,r,B⟩:=hrel;have f:=zh r;have v:=zh B;clear r B;by_cases m:j<n
  ·have L:(j:Int)<n:=(by omega);obtain ⟨u,z⟩:∃ u:World,u=wr:=⟨_,rfl⟩;rw [<-z] at v;rw [<-z];clear z wr;go_wp2_with fail
   go_loopw [5] (fun c wr=>∃ i:Nat,c=zI i/\i<=j/\yy l j i=false/\∃ d,wr=w.drewN d) (fun c _=>j-(intOf c).toNat)
   case atStart=>exact ⟨0,rfl,by omega,rfl,v.o⟩
   obtain ⟨i,rfl,G,X,B⟩:=hrel;have Q:=zh X;have I:=zh B;clear X;have s:∀ a,wr.cell? a=w.cell? a:=(by obtain ⟨d,rfl⟩:=B;exact fun a=>rfl);clear B;by_cases ab:i<j
   ·have ah:(i:Int)<j:=(by omega);have ai:(i:Int)<n:=(by omega);have J:=(s _).trans (A.o i (by omega)).1;have c1:=(s _).trans (A.o j m).1;clear s;cases g:(nm l i==nm l j) with
    | true =>
     have aa:((qu l i).name.toList==(qu l j).name.toList)=true:=(by rw [ByteArray.toList_eq,ByteArray.toList_eq];exact g);go_wp2;go_quiet (fail)
     go_wp2;go_ret;exact ⟨yK (Fn D.o E.o (by rw [<-t.o];exact XM (QE ab g) n m)).symm,_root_.Go.below_drewN (yM I.o) _⟩
    | false =>
     have aa:((qu l i).name.toList==(qu l j).name.toList)=false:=(by rw [ByteArray.toList_eq,ByteArray.toList_eq];exact g);go_wp2;go_quiet (fail)
     go_wp2;go_roundw
     case rel=>exact ⟨i+1,by go_num,by omega,by rw [yy,Q.o,g];rfl,xM I _⟩
     case measure=>simp [intOf];omega
   obtain rfl:j=i:=(by omega);clear s;go_wp2;go_roundw
   case rel=>exact ⟨j+1,by go_num,by omega,by rw [yu,f.o,Q.o];rfl,I.o⟩
   case measure=>simp [intOf];omega
  obtain rfl:n=j:=by omega
  have H:Zh (yu l l.length=true):=by show yu l l.length=true;rw [<-t.o];exact f.o
  have s:∀ a,wr.cell? a=w.cell? a:=by obtain ⟨d,rfl⟩:=v.o;exact fun a=>rfl
  obtain ⟨u,z⟩:∃ u:World,u=wr:=⟨_,rfl⟩;rw [<-z] at v s;rw [<-z];have P:Zh (∀ i,i<n->u.cell? (zA b (N+i*3))=some (.string (qu l i).name)/\u.cell? (zA b (N+i*3+1))=some (zI (qu l i).parent)/\u.cell? (zA b (N+i*3+2))=some (.slice (qu l i).ca (qu l i).cn (qu l i).cc)):=fun i G=>⟨(s _).trans (A.o i G).1,(s _).trans (A.o i G).2.1,(s _).trans (A.o i G).2.2⟩;clear z s wr f;go_wp2_with fail
  go_loop [6] (fun c=>∃ k:Nat,c=zI k/\k<=n/\xK l k=true) (fun c=>n-(intOf c).toNat)
  case atStart=>exact ⟨0,rfl,by omega,rfl⟩
  obtain ⟨k,rfl,W,r⟩:=hrel;have f:=zh r;clear r;by_cases m:k<n
  ·have L:(k:Int)<n:=(by omega);have J:=(P.o k m).2.1;have Y:Zh (yW (qu l k).parent (-1) ((k:Int)-1)=decide (-1<=(qu l k).parent/\(qu l k).parent<k)):=by
    show yW (qu l k).parent (-1) ((k:Int)-1)=decide (-1<=(qu l k).parent/\(qu l k).parent<k);rw [yW,Bool.eq_iff_iff];simp;omega
   cases g:decide (-1<=(qu l k).parent/\(qu l k).parent<k) with
   | false =>
    go_wp2_with fail
    refine (zo _ _ _ _).mono ?_;rintro e w' ⟨rfl,y⟩;rw [y,Y.o,g];go_wp2;go_ret;exact ⟨yK (Fl D.o E.o H.o (by rw [<-t.o];exact XE (of_decide_eq_false g) n m)).symm,yM v.o⟩
   | true =>
    go_wp2_with fail
    refine (zo _ _ _ _).mono ?_;rintro e w' ⟨rfl,y⟩;rw [y,Y.o,g];go_wp2;go_round
    case rel=>exact ⟨k+1,by go_num,by omega,by rw [xK,f.o,g];rfl⟩
    case measure=>simp [intOf];omega
  obtain rfl:n=k:=by omega
  have O:Zh (xK l l.length=true):=by show xK l l.length=true;rw [<-t.o];exact f.o
  clear f;go_wp2_with fail
  go_loopw [7] (fun c wr=>∃ k:Nat,c=zI k/\k<=n/\Yg (fun q=>yR q.runs) l k=true/\zL u wr) (fun c _=>n-(intOf c).toNat)
  case atStart=>exact ⟨0,rfl,by omega,rfl,Below.refl _ _⟩
  obtain ⟨k,rfl,W,r,U⟩:=hrel;have f:=zh r;have C:=zh U;clear r U;by_cases m:k<n
  ·have L:(k:Int)<n:=(by omega);have J:=cell_later C.o (P.o k m).2.2;have S:=zh (((h.caps k m).later (yM v.o)).later C.o);cases g:yR (qu l k).runs with
   | false =>
    go_wp2_with fail
    refine (Xx _ _ _ _ _ S.o).mono ?_;rintro e w' ⟨rfl,F⟩;rw [g];go_wp2;go_ret;exact ⟨yK (Fk D.o E.o H.o O.o (by rw [ZX,<-t.o];exact Xg (p:=fun q=>yR q.runs) g n m)).symm,za (za (yM v.o) C.o) F⟩
   | true =>
    go_wp2_with fail
    refine (Xx _ _ _ _ _ S.o).mono ?_;rintro e w' ⟨rfl,F⟩;have Z:=zh F;clear F;rw [g];go_wp2;go_roundw
    case rel=>exact ⟨k+1,by go_num,by omega,by rw [Yg,f.o,g];rfl,za C.o Z.o⟩
    case measure=>simp [intOf];omega
  obtain rfl:n=k:=by omega
  go_wp2;go_ret;exact ⟨yK (Fj D.o E.o H.o O.o (by rw [ZX,<-t.o];exact f.o)).symm,za (yM v.o) C.o⟩
theorem ZH (k:Int) (w:World):zC 67 #[zI k] w fun e w'=>e=.returned (.bool (yW k 1 4))/\w'=w:=by
 go_enter Tryz.func67,Tryz.ntmps67;go_wp2_with (go_at_call 33;refine (zo _ _ _ _).mono ?_;rintro e w' ⟨rfl,rfl⟩)
 go_ret;exact ⟨rfl,rfl⟩
theorem wM (w:World) (r:Rq) (h:zH w r) :
 zC 68 #[.agg #[zI r.queue,zI r.fr,zI r.un,zI r.kind,.slice r.pa r.pn r.pc]] w fun e w'=>e=.returned (zI (if yW r.ps.length 1 3=true then 0 else 2))/\Below w.heap.size w w':=by
 have hn:=h.len;have b:=h.capb;have c:=h.le;rw [<-hn];clear hn;cases g:yW r.pn 1 3
 all_goals
  go_enter Tryz.func68,Tryz.ntmps68;go_wp2_with (go_at_call 33;refine (zo _ _ _ _).mono ?_;rintro e w' ⟨rfl,a⟩;rw [a,g])
  go_ret;exact ⟨yK (by rfl),zr _ _⟩
theorem Vh (w:World) (r:Rq) (h:zH w r) (F:0<r.pn) :
 zC 69 #[.agg #[zI r.queue,zI r.fr,zI r.un,zI r.kind,.slice r.pa r.pn r.pc]] w fun e w'=>e=.returned (zI (if yJ r=true then 0 else 3))/\Below w.heap.size w w':=by
 have D:=zh h.len;have I:=h.capb;have L:=h.le;obtain ⟨b,s,C,t⟩:=h.cells F;have c:=zh ((Below.refl w.heap.size w).alloc (Nat.le_refl _) (.cells #[zI r.queue,zI r.fr,zI r.un,zI r.kind,.slice r.pa r.pn r.pc] 24));have f:Zh (∀ i,i<r.pn->(w.alloc (.cells #[zI r.queue,zI r.fr,zI r.un,zI r.kind,.slice r.pa r.pn r.pc] 24)).cell? (zA b (s+i*2))=some (zI (zp r.ps i))/\(w.alloc (.cells #[zI r.queue,zI r.fr,zI r.un,zI r.kind,.slice r.pa r.pn r.pc] 24)).cell? (zA b (s+i*2+1))=some (zI (rN r.ps i))):=fun i B=>⟨cell_later c.o (t i B).1,cell_later c.o (t i B).2⟩;clear t;rw [C] at f c;rw [C];cases n:Xw r.fr r.un with
 | false =>
  have m:yJ r=false:=by rw [yJ,n];rfl
  rw [m];go_enter Tryz.func69,Tryz.ntmps69;go_wp2_with (go_at_call 113;refine (R8 _ _ _).mono ?_;rintro e w' ⟨rfl,a⟩;rw [a,n])
  go_ret;exact ⟨yK (by rfl),c.o⟩
 | true =>
  have m:Zh (yJ r=zQ (xI r.ps) r.pn):=by show yJ r=zQ (xI r.ps) r.pn;rw [yJ,n,Xo,D.o];rfl
  obtain ⟨x,q⟩:∃ x:Int,(if yJ r=true then (0:Int) else 3)=x:=⟨_,rfl⟩;have E:Zh (zQ (xI r.ps) r.pn=true->0=x):=fun e=>by rw [<-q,m.o,e];rfl
  have z:Zh (zQ (xI r.ps) r.pn=false->3=x):=fun e=>by rw [<-q,m.o,e];rfl
  rw [q];clear q;go_enter Tryz.func69,Tryz.ntmps69;go_wp2_with (go_at_call 113;refine (R8 _ _ _).mono ?_;rintro e w' ⟨rfl,a⟩;rw [a,n])
  obtain ⟨v,p⟩:∃ v:World,v=w.alloc (.cells #[zI r.queue,zI r.fr,zI r.un,zI r.kind,.slice (some ⟨b,s,none⟩) r.pn r.pc] 24):=⟨_,rfl⟩;have c5:v.cell? (zA w.heap.size 4)=some (.slice (zO b s) r.pn r.pc):=by rw [p];go_simp
  rw [<-p] at f c;rw [<-p];clear p;go_loop [3] (fun u=>∃ k:Nat,u=zI k/\k<=r.pn/\zQ (xI r.ps) k=true) (fun u=>r.pn-(intOf u).toNat)
  case atStart=>exact ⟨0,rfl,by omega,rfl⟩
  obtain ⟨k,rfl,J,A⟩:=hrel;have y:=zh A;clear A;by_cases l:k<r.pn
  ·have M:(k:Int)<r.pn:=(by omega);have G:=(f.o k l).1;have H:=(f.o k l).2;cases d:yW (zp r.ps k) 1 24 with
   | false =>
    have g:xI r.ps k=false:=(by rw [xI,d];rfl);go_wp2_with (go_at_call 33;refine (zo _ _ _ _).mono ?_;rintro e w' ⟨rfl,a⟩;rw [a,d])
    go_ret;exact ⟨yK (z.o (yO g _ l)),c.o⟩
   | true =>
    cases j:yW (rN r.ps k) 1 50 with
    | false =>
     have g:xI r.ps k=false:=(by rw [xI,d,j];rfl);go_wp2_with (go_at_call 33;refine (zo _ _ _ _).mono ?_;rintro e w' ⟨rfl,a⟩;rw [a];(first | rw [d] | rw [j]))
     go_ret;exact ⟨yK (z.o (yO g _ l)),c.o⟩
    | true =>
     have g:xI r.ps k=true:=(by rw [xI,d,j];rfl);go_wp2_with (go_at_call 33;refine (zo _ _ _ _).mono ?_;rintro e w' ⟨rfl,a⟩;rw [a];(first | rw [d] | rw [j]))
     go_round
     case rel=>exact ⟨k+1,by go_num,by omega,by rw [zQ,y.o,g];rfl⟩
     case measure=>simp [intOf];omega
  obtain rfl:k=r.pn:=by omega
  go_wp2;go_ret;exact ⟨yK (E.o y.o),c.o⟩
theorem Ue (w:World) (a:Option Addr) (n D:Nat) (l:QL) (A:QsIn w a n D l) (r:Rq) (h:zH w r) :
 zC 106 #[.slice a n D,.agg #[zI r.queue,zI r.fr,zI r.un,zI r.kind,.slice r.pa r.pn r.pc]] w fun e w'=>e=.returned (zI (yI l r))/\Below w.heap.size w w':=by
 have J:=A.le;have I:=A.capb;have G:=zh A.len;have s:=zh ((Below.refl w.heap.size w).alloc (Nat.le_refl _) (.cells (zR r) 24));have u:=zh (Yw _ a n D l (A.later s.o));by_cases g:z9 l=0
 ·have B:yI l r=z8 (wV n r.queue) r:=by rw [yI,if_pos g,G.o]
  rw [B];have v:Zh (∀ c:World,Below (w.alloc (.cells (zR r) 24)).heap.size (w.alloc (.cells (zR r) 24)) c->c.cell? (zA w.heap.size 0)=some (zI r.queue)/\c.cell? (zA w.heap.size 1)=some (zI r.fr)/\c.cell? (zA w.heap.size 2)=some (zI r.un)/\c.cell? (zA w.heap.size 3)=some (zI r.kind)/\c.cell? (zA w.heap.size 4)=some (.slice r.pa r.pn r.pc)) :=
   fun c b=>⟨cell_later b (by go_simp),cell_later b (by go_simp),cell_later b (by go_simp),cell_later b (by go_simp),cell_later b (by go_simp)⟩
  obtain ⟨x,f⟩:∃ x:Int,z8 (wV n r.queue) r=x:=⟨_,rfl⟩;rw [f];have y:=zh f;clear f B;cases m:yW r.kind 1 4 with
  | false =>
   have f:Zh (7=x):=(by show 7=x;rw [<-y.o,z8,m];rfl);go_enter Tryz.func106,Tryz.ntmps106;go_wp2_with fail
   refine u.o.mono ?_;rintro e c ⟨rfl,b⟩;rw [g];have i:=zh (za s.o b);obtain ⟨p,c1,c2,c3,c4⟩:=v.o c b;clear b;go_wp2_with (go_at_call 67;refine (ZH _ _).mono ?_;rintro e w' ⟨rfl,j⟩;rw [j,m])
   go_ret;exact ⟨yK f.o,i.o⟩
  | true =>
  cases q:yW r.ps.length 1 3 with
  | false =>
   have f:Zh (2=x):=(by show 2=x;rw [<-y.o,z8,m,q];rfl);go_enter Tryz.func106,Tryz.ntmps106;go_wp2_with fail
   refine u.o.mono ?_;rintro e c ⟨rfl,b⟩;rw [g];have i:=zh (za s.o b);obtain ⟨p,c1,c2,c3,c4⟩:=v.o c b;clear b;go_wp2_with (go_at_call 67;refine (ZH _ _).mono ?_;rintro e w' ⟨rfl,j⟩;rw [j,m])
   refine (wM c r (h.later i.o)).mono ?_;rintro e k ⟨rfl,d⟩;rw [q];have t:=zh (za i.o d);clear d;go_wp2;go_ret;exact ⟨yK f.o,t.o⟩
  | true =>
  cases z:yW r.queue 0 ((n:Int)-1) with
  | false =>
   have f:Zh (6=x):=(by show 6=x;rw [<-y.o,z8,m,q,wV,z];rfl);go_enter Tryz.func106,Tryz.ntmps106;go_wp2_with fail
   refine u.o.mono ?_;rintro e c ⟨rfl,b⟩;rw [g];have i:=zh (za s.o b);obtain ⟨p,c1,c2,c3,c4⟩:=v.o c b;have C:=zh (fun k (d:zL c k)=>v.o k (za b d));clear b;go_wp2_with (go_at_call 67;refine (ZH _ _).mono ?_;rintro e w' ⟨rfl,j⟩;rw [j,m])
   refine (wM c r (h.later i.o)).mono ?_;rintro e k ⟨rfl,d⟩;rw [q];have t:=zh (za i.o d);clear p c1 c2 c3 c4;obtain ⟨p,c1,c2,c3,c4⟩:=C.o k d;clear d;go_wp2_with (go_at_call 33;refine (zo _ _ _ _).mono ?_;rintro e w' ⟨rfl,j⟩;rw [j,z])
   go_ret;exact ⟨yK f.o,t.o⟩
  | true =>
   have f:Zh ((if yJ r=true then (0:Int) else 3)=x):=(by show (if yJ r=true then (0:Int) else 3)=x;rw [<-y.o,z8,m,q,wV,z];rfl);have H:0<r.pn:=(by have:=of_decide_eq_true q;have:=h.len;omega);go_enter Tryz.func106,Tryz.ntmps106;go_wp2_with fail
   refine u.o.mono ?_;rintro e c ⟨rfl,b⟩;rw [g];have i:=zh (za s.o b);obtain ⟨p,c1,c2,c3,c4⟩:=v.o c b;have C:=zh (fun k (d:zL c k)=>v.o k (za b d));clear b;go_wp2_with (go_at_call 67;refine (ZH _ _).mono ?_;rintro e w' ⟨rfl,j⟩;rw [j,m])
   refine (wM c r (h.later i.o)).mono ?_;rintro e k ⟨rfl,d⟩;rw [q];have t:=zh (za i.o d);clear p c1 c2 c3 c4;obtain ⟨p,c1,c2,c3,c4⟩:=C.o k d;clear d;go_wp2_with (go_at_call 33;refine (zo _ _ _ _).mono ?_;rintro e w' ⟨rfl,j⟩;rw [j,z])
   refine (Vh k r (h.later t.o) H).mono ?_;rintro e L ⟨rfl,E⟩;rw [f.o];have F:=zh (za t.o E);clear E;go_wp2;go_ret;exact ⟨rfl,F.o⟩
 ·have B:yI l r=z9 l:=by rw [yI,if_neg g]
  rw [B];obtain ⟨x,f⟩:=qA (z9 l);rw [f] at g u;rw [f];go_enter Tryz.func106,Tryz.ntmps106;go_wp2_with fail
  refine u.o.mono ?_;rintro e c ⟨rfl,b⟩;have i:=zh (za s.o b);clear b;go_wp2;go_ret;exact ⟨rfl,i.o⟩
theorem Ub (w:World) (r:Rq) (h:zH w r) :
 zC 149 #[.agg #[zI r.queue,zI r.fr,zI r.un,zI r.kind,.slice r.pa r.pn r.pc]] w fun e w'=>e=.returned (.bool (decide (z8 false r=0)))/\Below w.heap.size w w':=by
 have c:=zh ((Below.refl w.heap.size w).alloc (Nat.le_refl _) (.cells (zR r) 24));have p:Zh (∀ a:World,Below (w.alloc (.cells (zR r) 24)).heap.size (w.alloc (.cells (zR r) 24)) a->a.cell? (zA w.heap.size 0)=some (zI r.queue)/\a.cell? (zA w.heap.size 1)=some (zI r.fr)/\a.cell? (zA w.heap.size 2)=some (zI r.un)/\a.cell? (zA w.heap.size 3)=some (zI r.kind)/\a.cell? (zA w.heap.size 4)=some (.slice r.pa r.pn r.pc)) :=
  fun a d=>⟨cell_later d (by go_simp),cell_later d (by go_simp),cell_later d (by go_simp),cell_later d (by go_simp),cell_later d (by go_simp)⟩
 cases f:yW r.kind 1 4 with
 | false =>
  have j:decide (z8 false r=0)=false:=by apply decide_eq_false;rw [zv,f];simp
  rw [j];go_enter Tryz.func149,Tryz.ntmps149;go_wp2_with (go_at_call 67;refine (ZH _ _).mono ?_;rintro e w' ⟨rfl,i⟩;rw [i,f])
  go_ret;exact ⟨rfl,c.o⟩
 | true =>
 cases g:yW r.ps.length 1 3 with
 | false =>
  have j:decide (z8 false r=0)=false:=by apply decide_eq_false;rw [zv,g];simp
  rw [j];go_enter Tryz.func149,Tryz.ntmps149;go_wp2_with (go_at_call 67;refine (ZH _ _).mono ?_;rintro e w' ⟨rfl,i⟩;rw [i,f])
  refine (wM _ r (h.later c.o)).mono ?_;rintro e l ⟨rfl,b⟩;rw [g];have k:=zh (za c.o b);clear b;go_wp2;go_ret;exact ⟨rfl,k.o⟩
 | true =>
  have s:0<r.pn:=by have:=of_decide_eq_true g;have:=h.len;omega
  have j:Zh (decide (z8 false r=0)=yJ r):=by show decide (z8 false r=0)=yJ r;rw [Bool.eq_iff_iff,decide_eq_true_iff,zv,f,g];simp
  rw [j.o];cases q:yJ r
  all_goals
   go_enter Tryz.func149,Tryz.ntmps149;go_wp2_with (go_at_call 67;refine (ZH _ _).mono ?_;rintro e w' ⟨rfl,i⟩;rw [i,f])
   refine (wM _ r (h.later c.o)).mono ?_;rintro e l ⟨rfl,b⟩;rw [g];have k:=zh (za c.o b);obtain ⟨t,c1,c2,c3,c4⟩:=p.o l b;clear b;go_wp2_with fail
   refine (Vh l r (h.later k.o) s).mono ?_;rintro e u ⟨rfl,m⟩;rw [q];have n:=zh (za k.o m);clear m;go_wp2;go_ret;exact ⟨rfl,n.o⟩
theorem PL (w:World) (r:Rq) (h:zH w r) (ad ae l aN:Nat) (b:zd) (B:RunsIn w (zO ad ae) l aN b) (V:z8 false r=0) (ba:0<l) :
 zC 148 #[.agg #[zI r.queue,zI r.fr,zI r.un,zI r.kind,.slice r.pa r.pn r.pc],.slice (zO ad ae) l aN] w fun e w'=>e=.returned (.bool (xB r b))/\Below w.heap.size w w':=by
 have q:=zh B.len;have bn:=B.le;have bl:=B.capb;have a9:=of_decide_eq_true (zv.1 V).2.1;have aV:=h.len;have bb:0<r.pn:=by omega
 have bp:r.pn<=3:=by omega
 have A:=zh aV;clear aV a9;obtain ⟨I,J,aw,aU⟩:=h.cells bb;have am:=zh ((Below.refl w.heap.size w).alloc (Nat.le_refl _) (.cells #[zI r.queue,zI r.fr,zI r.un,zI r.kind,.slice (zO I J) r.pn r.pc] 24));have ab:=zh fun z (B:zL w z)=>Ub z r (h.later B);rw [aw] at ab;rw [aw];have aM:Zh (∀ X:World,Below (w.alloc (.cells #[zI r.queue,zI r.fr,zI r.un,zI r.kind,.slice (zO I J) r.pn r.pc] 24)).heap.size (w.alloc (.cells #[zI r.queue,zI r.fr,zI r.un,zI r.kind,.slice (zO I J) r.pn r.pc] 24)) X->X.cell? (zA w.heap.size 0)=some (zI r.queue)/\X.cell? (zA w.heap.size 1)=some (zI r.fr)/\X.cell? (zA w.heap.size 2)=some (zI r.un)/\X.cell? (zA w.heap.size 3)=some (zI r.kind)/\X.cell? (zA w.heap.size 4)=some (.slice (zO I J) r.pn r.pc)) :=
  fun X u=>⟨cell_later u (by go_simp),cell_later u (by go_simp),cell_later u (by go_simp),cell_later u (by go_simp),cell_later u (by go_simp)⟩
 obtain ⟨bh,bv,e,aR⟩:=B.cells ba;cases e
 have O:=zh V;have aJ:=zh (xA V);have aX:decide (z8 false r=0)=true:=by rw [V];rfl
 rw [aX] at ab;have bq:IntKind.i64.wrap ((r.pn:Int)-1)=r.pn-1:=by rw [IntKind.wrap_i64];omega
 have ao:=zh aR;have aG:=zh aU;clear aR aU aX V aw h B;go_enter Tryz.func148,Tryz.ntmps148;go_wp2_with fail
 refine (ab.o _ am.o).mono ?_;rintro e z ⟨rfl,u⟩;have m:=zh (za am.o u);have ar:=zh fun X (a6:zL z X)=>aM.o X (za u a6);have Q:Zh (∀ i,i<l->z.cell? (zA ad (ae+i*2))=some (zI (zp b i))/\z.cell? (zA ad (ae+i*2+1))=some (zI (rN b i))):=fun i ai=>⟨cell_later m.o (ao.o i ai).1,cell_later m.o (ao.o i ai).2⟩;have aF:Zh (∀ i,i<r.pn->z.cell? (zA I (J+i*2))=some (zI (zp r.ps i))):=fun i ai=>cell_later m.o (aG.o i ai).1;clear u ao aG aM am ab;go_wp2_with fail
 go_loopw [5] (fun E wr=>∃ j:Nat,E=zI j/\j<=l/\zQ (yl r b) j=true/\zL z wr) (fun E _=>l-(intOf E).toNat)
 case atStart=>exact ⟨0,rfl,by omega,rfl,Below.refl _ _⟩
 case round =>
  obtain ⟨j,rfl,aS,S,U⟩:=hrel;have M:=zh S;have c:=zh U;clear S U;by_cases n:j<l
  ·have a8:(j:Int)<l:=(by omega);have aO:=cell_later c.o (Q.o j n).1;have af:=cell_later c.o (Q.o j n).2;obtain ⟨au,c1,c2,c3,c4⟩:=ar.o wr c.o;obtain ⟨be,ax⟩:∃ x,zp b j=x:=⟨_,rfl⟩;obtain ⟨a,C⟩:∃ x,rN b j=x:=⟨_,rfl⟩;rw [ax] at aO;rw [C] at af;have G:=zh ax;have v:=zh C;clear ax C;cases g:yW be 0 ((r.pn:Int)-1) with
   | false =>
    have d:=zh (wE q n (show yl r b j=false by rw [yl,xt,G.o,<-A.o,g];rfl));go_wp2_with fail
    go_quiet ((go_at_call 33;exact Calls.quiet_of_same (zo _ _ _ _)))
    go_wp2;go_ret;exact ⟨zm d.o.symm,za m.o (_root_.Go.below_drewN c.o _)⟩
   | true =>
    have aW:=of_decide_eq_true g;obtain ⟨P,rfl⟩:=Int.eq_ofNat_of_zero_le aW.1;have a5:P<r.pn:=(by omega);have bj:(P:Int)<r.pn:=(by omega);obtain ⟨L,y⟩:=qA (zp r.ps P);have aq:Zh (1<=L/\L<=24):=by
     have:=yh O.o (k:=P) (by have:=A.o;omega);rw [y] at this;exact ⟨this.1,this.2.1⟩
    have aY:wr.cell? (zA I (J+P*2))=some (zI L):=(by rw [<-y];exact cell_later c.o (aF.o P a5));have F:Zh (lenOf r b j=L):=(by show lenOf r b j=L;rw [lenOf,G.o,Int.toNat_natCast,y]);have br:IntKind.i64.wrap (r.un-L)=r.un-L:=(by have:=aJ.o;have:=aq.o;rw [IntKind.wrap_i64];omega);clear y aW;cases j with
    | zero =>
     simp only [Nat.zero_mul,Nat.add_zero] at aO af;have a3:decide ((0:Int)<0)=false:=(by simp);by_cases p:a<r.fr
     ·have W:decide (a<r.fr)=true:=decide_eq_true p;have d:=zh (wE q n (show yl r b (0)=false by
       have:xF r b (0)=false:=decide_eq_false (by rw [v.o];omega);rw [yl,this];simp))
      go_wp2_with fail
      go_quiet ((go_at_call 33;exact Calls.quiet_of_same (zo _ _ _ _)))
      go_wp2_with fail
      go_quiet (fail)
      go_wp2;go_ret;exact ⟨zm d.o.symm,za m.o (_root_.Go.below_drewN (_root_.Go.below_drewN c.o _) _)⟩
     have W:decide (a<r.fr)=false:=decide_eq_false p;by_cases Y:r.un<a
     ·have aD:decide (r.un<a)=true:=decide_eq_true Y;have d:=zh (wE q n (show yl r b (0)=false by
       have:xF r b (0)=false:=decide_eq_false (by rw [v.o,F.o];have:=aq.o;omega);rw [yl,this];simp))
      go_wp2_with fail
      go_quiet ((go_at_call 33;exact Calls.quiet_of_same (zo _ _ _ _)))
      go_wp2_with fail
      go_quiet (fail)
      go_wp2;go_ret;exact ⟨zm d.o.symm,za m.o (_root_.Go.below_drewN (_root_.Go.below_drewN c.o _) _)⟩
     have aD:decide (r.un<a)=false:=decide_eq_false Y;by_cases Z:r.un-L<a
     ·have aE:decide (r.un-L<a)=true:=decide_eq_true Z;have d:=zh (wE q n (show yl r b (0)=false by
       have:xF r b (0)=false:=decide_eq_false (by rw [v.o,F.o];omega);rw [yl,this];simp))
      go_wp2_with fail
      go_quiet ((go_at_call 33;exact Calls.quiet_of_same (zo _ _ _ _)))
      go_wp2_with fail
      go_quiet (fail)
      go_wp2;go_ret;exact ⟨zm d.o.symm,za m.o (_root_.Go.below_drewN (_root_.Go.below_drewN c.o _) _)⟩
     have aE:decide (r.un-L<a)=false:=decide_eq_false Z;have an:Zh (zQ (yl r b) (0+1)=true):=by
      show zQ (yl r b) (0+1)=true;have ag:xt r b (0)=true:=(by rw [xt,G.o,<-A.o];exact g);have ah:xF r b (0)=true:=decide_eq_true (by rw [v.o,F.o];omega);rw [zQ,M.o,yl,ag,ah];rfl
     go_wp2_with fail
     go_quiet ((go_at_call 33;exact Calls.quiet_of_same (zo _ _ _ _)))
     go_wp2_with fail
     go_quiet (fail)
     go_wp2;go_roundw
     case rel=>exact ⟨0+1,by go_num,by omega,an.o,_root_.Go.below_drewN c.o _⟩
     case measure=>simp [intOf];omega
    | succ k =>
     have a3:decide ((0:Int) < ↑k+1)=true:=(by simp);have a7:(k:Int)<l:=(by omega);have bd:IntKind.i64.wrap (k:Int)=k:=(by rw [IntKind.wrap_i64];omega);have a1:=cell_later c.o (Q.o k (by omega)).1;obtain ⟨aC,ay⟩:∃ x,zp b k=x:=⟨_,rfl⟩;rw [ay] at a1;have aH:=zh ay;clear ay;by_cases aP:(P:Int)<=aC
     ·have a4:decide ((P:Int)<=aC)=true:=decide_eq_true aP;have d:=zh (wE q n (show yl r b (k+1)=false by
       have:decide (zp b (k+1-1)<zp b (k+1))=false:=decide_eq_false (by rw [Nat.add_sub_cancel,G.o,aH.o];omega);rw [yl,this];simp))
      go_wp2_with fail
      go_quiet ((go_at_call 33;exact Calls.quiet_of_same (zo _ _ _ _)))
      go_wp2;go_ret;exact ⟨zm d.o.symm,za m.o (_root_.Go.below_drewN c.o _)⟩
     have a4:decide ((P:Int)<=aC)=false:=decide_eq_false aP;by_cases p:a<r.fr
     ·have W:decide (a<r.fr)=true:=decide_eq_true p;have d:=zh (wE q n (show yl r b (k+1)=false by
       have:xF r b (k+1)=false:=decide_eq_false (by rw [v.o];omega);rw [yl,this];simp))
      go_wp2_with fail
      go_quiet ((go_at_call 33;exact Calls.quiet_of_same (zo _ _ _ _)))
      go_wp2_with fail
      go_quiet (fail)
      go_wp2;go_ret;exact ⟨zm d.o.symm,za m.o (_root_.Go.below_drewN (_root_.Go.below_drewN c.o _) _)⟩
     have W:decide (a<r.fr)=false:=decide_eq_false p;by_cases Y:r.un<a
     ·have aD:decide (r.un<a)=true:=decide_eq_true Y;have d:=zh (wE q n (show yl r b (k+1)=false by
       have:xF r b (k+1)=false:=decide_eq_false (by rw [v.o,F.o];have:=aq.o;omega);rw [yl,this];simp))
      go_wp2_with fail
      go_quiet ((go_at_call 33;exact Calls.quiet_of_same (zo _ _ _ _)))
      go_wp2_with fail
      go_quiet (fail)
      go_wp2;go_ret;exact ⟨zm d.o.symm,za m.o (_root_.Go.below_drewN (_root_.Go.below_drewN c.o _) _)⟩
     have aD:decide (r.un<a)=false:=decide_eq_false Y;by_cases Z:r.un-L<a
     ·have aE:decide (r.un-L<a)=true:=decide_eq_true Z;have d:=zh (wE q n (show yl r b (k+1)=false by
       have:xF r b (k+1)=false:=decide_eq_false (by rw [v.o,F.o];omega);rw [yl,this];simp))
      go_wp2_with fail
      go_quiet ((go_at_call 33;exact Calls.quiet_of_same (zo _ _ _ _)))
      go_wp2_with fail
      go_quiet (fail)
      go_wp2;go_ret;exact ⟨zm d.o.symm,za m.o (_root_.Go.below_drewN (_root_.Go.below_drewN c.o _) _)⟩
     have aE:decide (r.un-L<a)=false:=decide_eq_false Z;have an:Zh (zQ (yl r b) (k+1+1)=true):=by
      show zQ (yl r b) (k+1+1)=true;have ag:xt r b (k+1)=true:=(by rw [xt,G.o,<-A.o];exact g);have ah:xF r b (k+1)=true:=decide_eq_true (by rw [v.o,F.o];omega);rw [zQ,M.o,yl,ag,ah];simp only [Nat.add_sub_cancel];rw [G.o,aH.o];simp;omega
     go_wp2_with fail
     go_quiet ((go_at_call 33;exact Calls.quiet_of_same (zo _ _ _ _)))
     go_wp2_with fail
     go_quiet (fail)
     go_wp2;go_roundw
     case rel=>exact ⟨k+1+1,by go_num,by omega,an.o,_root_.Go.below_drewN c.o _⟩
     case measure=>simp [intOf];omega
  obtain rfl:l=j:=by omega
  obtain ⟨al,aA⟩:∃ al:World,al=wr:=⟨_,rfl⟩;rw [<-aA] at c;rw [<-aA];clear aA wr;obtain ⟨au,c1,c2,c3,c4⟩:=ar.o al c.o;by_cases D:r.kind=2
  ·have d:Zh (xB r b=decide (l=1)):=by
    show xB r b=decide (l=1);rw [xB,O.o,if_pos D,<-q.o,M.o];simp
   rw [D] at c3;go_wp2;go_ret;refine ⟨zm ?_,za m.o c.o⟩;rw [d.o,Bool.eq_iff_iff];simp;omega
  by_cases aB:l=r.pn
  ·have d:Zh (xB r b=zQ (xg r b) l):=by
    show xB r b=zQ (xg r b) l;rw [xB,O.o,if_neg D,<-q.o,<-A.o,M.o,aB];simp
   have aI:Zh (∀ j,j<l->xg r b j=false->xB r b=false):=fun j aS bc=>by rw [d.o];exact yO bc l aS
   subst aB;have bt:(r.kind==2)=false:=(by simp [D]);have bf:=zh D;clear D;have a0:Zh (∀ k,k<r.pn->(0<=rN b k/\rN b k<=48)/\(1<=zp r.ps k/\zp r.ps k<=24)):=fun k aj=>by
    have f:=VY (xv.1 M.o k aj);have ag:=wR f.2.2;have ah:=Xm O.o f.1;have bi:=aJ.o;have aQ:=yh O.o (k:=k) (by have:=A.o;omega);exact ⟨by omega,aQ.1,aQ.2.1⟩
   go_wp2_with fail
   go_loopw [6,7] (fun E _ wr=>∃ k:Nat,E=zI ((k+1:Nat):Int)/\k<r.pn/\zQ (xg r b) (k+1)=true/\zL al wr) (fun E _ _=>r.pn-(intOf E).toNat)
   case atStart=>exact ⟨0,rfl,by omega,by simp [zQ,xg],Below.refl _ _⟩
   case round =>
    obtain ⟨k,rfl,aj,S,U⟩:=hrel;have aa:=zh S;have s:=zh U;clear S U au c1 c2 c3 c4;by_cases n:k+1<r.pn
    ·have a8:(k:Int)+1<r.pn:=(by omega);have a7:(k:Int)<r.pn:=(by omega);have bm:(k:Int)<r.pn:=(by omega);have bd:IntKind.i64.wrap (k:Int)=k:=(by rw [IntKind.wrap_i64];omega);have af:=cell_later (za c.o s.o) (Q.o (k+1) n).2;have a2:=cell_later (za c.o s.o) (Q.o k aj).2;have aY:=cell_later (za c.o s.o) (aF.o k (by omega));obtain ⟨au,c1,c2,c3,c4⟩:=ar.o wr (za c.o s.o);have av:=a0.o k aj;obtain ⟨a,C⟩:∃ x,rN b (k+1)=x:=⟨_,rfl⟩;obtain ⟨t,az⟩:∃ x,rN b k=x:=⟨_,rfl⟩;obtain ⟨L,y⟩:∃ x,zp r.ps k=x:=⟨_,rfl⟩;rw [C] at af;rw [az] at a2 av;rw [y] at aY av;have bs:IntKind.i64.wrap (t+L)=t+L:=(by rw [IntKind.wrap_i64];omega);have R:Zh (xg r b (k+1)=if r.kind=3 then decide (t+L<=a) else if r.kind=4 then decide (a=t+L) else true):=by
      show xg r b (k+1)=if r.kind=3 then decide (t+L<=a) else if r.kind=4 then decide (a=t+L) else true;rw [xg,Nat.add_sub_cancel,C,az,y];simp
     clear C az y av;by_cases H:r.kind=3
     ·rw [H] at c3;have aK:=zh H;clear H;by_cases p:a<t+L
      ·have ap:=zh (aI.o (k+1) n (by rw [R.o,if_pos aK.o];exact decide_eq_false (by omega)));go_wp2_with fail
       go_quiet (fail)
       go_wp2;go_ret;exact ⟨zm ap.o.symm,za m.o (za c.o (_root_.Go.below_drewN s.o _))⟩
      have N:Zh (zQ (xg r b) (k+1+1)=true):=by
       show zQ (xg r b) (k+1+1)=true;rw [zQ,aa.o,R.o,if_pos aK.o];simp;omega
      go_wp2_with fail
      go_quiet (fail)
      go_wp2;go_roundw
      case rel=>exact ⟨k+1,by go_num,by omega,N.o,_root_.Go.below_drewN s.o _⟩
      case measure=>simp [intOf];omega
     by_cases ak:r.kind=4
     ·rw [ak] at c3;have aL:=zh ak;clear ak;by_cases p:a=t+L
      ·have N:Zh (zQ (xg r b) (k+1+1)=true):=by
        show zQ (xg r b) (k+1+1)=true;rw [zQ,aa.o,R.o,if_neg H,if_pos aL.o,decide_eq_true p];rfl
       have W:(a != t+L)=false:=(by simp [p]);have bg:=zh p;clear p;go_wp2_with fail
       go_quiet (fail)
       go_wp2;go_roundw
       case rel=>exact ⟨k+1,by go_num,by omega,N.o,_root_.Go.below_drewN s.o _⟩
       case measure=>simp [intOf];omega
      have ap:=zh (aI.o (k+1) n (by rw [R.o,if_neg H,if_pos aL.o];exact decide_eq_false p));have W:(a != t+L)=true:=(by simp [p]);go_wp2_with fail
      go_quiet (fail)
      go_wp2;go_ret;exact ⟨zm ap.o.symm,za m.o (za c.o (_root_.Go.below_drewN s.o _))⟩
     have N:Zh (zQ (xg r b) (k+1+1)=true):=by
      show zQ (xg r b) (k+1+1)=true;rw [zQ,aa.o,R.o,if_neg H,if_neg ak];rfl
     go_wp2_with fail
     go_quiet (fail)
     go_wp2;go_roundw
     case rel=>exact ⟨k+1,by go_num,by omega,N.o,_root_.Go.below_drewN s.o _⟩
     case measure=>simp [intOf];omega
    have aT:k+1=r.pn:=(by omega);have aZ:=zh aT;have bo:¬(k:Int)+1<r.pn:=(by omega);clear aT;go_wp2;go_ret;exact ⟨zm (by rw [d.o,<-aZ.o,aa.o]),za m.o (za c.o s.o)⟩
  have d:Zh (xB r b=false):=by
   show xB r b=false;rw [xB,if_neg D,<-q.o,<-A.o,decide_eq_false aB];simp
  have bu:¬(l:Int)=r.pn:=by omega
  go_wp2;go_ret;exact ⟨zm d.o.symm,za m.o c.o⟩
theorem OM (w:World) (r:Rq) (h:zH w r) (p:Option Addr) (f n:Nat) (b:zd) (c:RunsIn w p f n b) :
 zC 148 #[.agg #[zI r.queue,zI r.fr,zI r.un,zI r.kind,.slice r.pa r.pn r.pc],.slice p f n] w fun e w'=>e=.returned (.bool (meets r b))/\Below w.heap.size w w':=by
 rw [<-M7];have s:=zh c.len;have D:=c.le;have C:=c.capb;have k:=zh ((Below.refl w.heap.size w).alloc (Nat.le_refl _) (.cells (zR r) 24));have m:=zh fun j (c:zL w j)=>Ub j r (h.later c);have t:=zh (wn w r);by_cases a:z8 false r=0
 ·by_cases q:0<f
  ·obtain ⟨u,v,rfl,_⟩:=c.cells q;exact PL w r h u v f n b c a q
  obtain rfl:f=0:=by omega
  have x:=of_decide_eq_true (zv.1 a).2.1;have y:=h.len;have E:¬(0:Int)=r.pn:=by omega
  have F:¬(r.pn:Int)=0:=by omega
  have g:xB r b=false:=by
   rw [xB,<-s.o,decide_eq_false (show ¬(0:Nat)=1 by omega),decide_eq_false (show ¬0=r.ps.length by omega)];simp
  rw [g];have i:decide (z8 false r=0)=true:=by rw [a];rfl
  rw [i] at m;clear i a g x y;go_enter Tryz.func148,Tryz.ntmps148;go_wp2_with fail
  refine (m.o _ k.o).mono ?_;rintro e j ⟨rfl,d⟩;have l:=zh (za k.o d);obtain ⟨B,c1,c2,c3,c4⟩:=t.o j d;clear d;go_wp2_with fail
  go_loop [5] (fun A=>A=zI 0) (fun _=>0)
  case atStart=>rfl
  subst hrel;by_cases z:r.kind=2
  ·rw [z] at c3;go_wp2;go_ret;exact ⟨rfl,l.o⟩
  go_wp2;go_ret;exact ⟨rfl,l.o⟩
 ·have g:xB r b=false:=by rw [xB,decide_eq_false a];rfl
  rw [g];have i:decide (z8 false r=0)=false:=decide_eq_false a;rw [i] at m;clear i g a;go_enter Tryz.func148,Tryz.ntmps148;go_wp2_with fail
  refine (m.o _ k.o).mono ?_;rintro e j ⟨rfl,d⟩;have l:=zh (za k.o d);clear d;go_wp2;go_ret;exact ⟨rfl,l.o⟩
end Go.Proofs.YtckpdfkobdgjeaaGreatDoor
