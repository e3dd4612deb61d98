/- LogKept: whatever queues, acts and number it is handed, the call returns true, and its arguments read afterwards as they read before (log.errNone reads as the program's text lays it: tied). -/
import Derived.Test.YtckpdfkobdgjeaaGreatDoorHX
import Derived.Test.YtckpdfkobdgjeaaGreatDoorHRefZA
import Derived.Test.YtckpdfkobdgjeaaGreatDoorHAll31
import Derived.Test.YtckpdfkobdgjeaaGreatDoorHLogX
import Derived.Test.YtckpdfkobdgjeaaGreatDoorHFrameA
namespace Go.Proofs.YtckpdfkobdgjeaaGreatDoor
set_option maxRecDepth 100000
open Go.ChangeShapes Go.WideShapes Go.ChangeAt Go.RowKit
open Go.ChangeMaps (open_string shut_string)
theorem OL (w:World) (a:Option Addr) (n cap:Nat) (l:QL) (h:QsIn w a n cap l) (d:Option Addr) (c f:Nat) (g:List Ac) (i:AcsIn w d c f g) (b:Int) (j:-9223372036854775808<=b) (k:b<=9223372036854775807) (v:Value) (m:Zx w v) :
 zC 5 #[.slice a n cap,.slice d c f,zI b] w fun e w'=>e=.returned (.bool true)/\Below w.heap.size w w':=Mo OO w a n cap l h d c f g i b j k v m
theorem U3 (f:Type) (enc:TypeId×Value->f) (a:World) (n:Nat) (args:Array Value) (r gs:List (DataW f)) (L:List MemPlace)
 (A:∀ (j:Nat) t v,Tryz.f5.params[j]?=some t->args[j]?=some v->Value.okWide Tryz.prog a .any n t v)
 (z:DataW.Whole enc Tryz.prog Tryz.f5.params.toList Rows.logKeptSpec.vars false a args.toList r gs L) (O:laidMetH Tryz.prog [("acreage/log.errNone",Rows.laid_acreage_log_errNone)] a) :
 zC 5 args a fun e g=>∃ v,e=.returned v/\Rows.logKeptSpec.post enc Tryz.prog Tryz.f5 false true false false a args v g:=by
 obtain ⟨ag,P⟩:=L7 O;have b:∀ (j:Nat) t v,Tryz.f5.params[j]?=some t->args[j]?=some v->Value.okWide Tryz.prog a .any n t v:=A;have R:=z;obtain ⟨p,q,y,Q,rfl,ar,au⟩:=z;have w:DataW.TrodAll enc Tryz.prog a 0 (fun _=>true) true Tryz.f5.params.toList args.toList r p:=y;rw [Tryz.params5] at w b;obtain ⟨E,az,aj,am,aa,aw,aq,rfl,rfl,s,ad⟩:=trodAll_cons w;obtain ⟨F,aA,ak,an,ab,ax,rfl,rfl,rfl,u,ae⟩:=trodAll_cons ad;obtain ⟨G,aB,al,ao,av,ay,rfl,rfl,rfl,N,af⟩:=trodAll_cons ae;obtain ⟨rfl,rfl,rfl⟩:=trodAll_nil af;obtain rfl:args=#[E,F,G]:=by cases args;simp_all
 obtain ⟨rfl,rfl⟩:=trodVars_none Q;have B:=s;have Y:∀ x∈aa,x.block<a.heap.size:=by obtain ⟨m,d⟩:=B;exact DataW.trod_lt m _ _ _ d
 obtain ⟨i,D,o,rfl⟩:=okWide_slice Tryz.underlying37 (b 0 37 E rfl rfl);obtain ⟨V,ah⟩:∃ l,QsIn a i D o l:=by
  obtain ⟨ap,U⟩:=s;exact L1 (by simp [Value.cells]) U
 have C:=u;have Z:∀ x∈ab,x.block<a.heap.size:=by obtain ⟨m,d⟩:=C;exact DataW.trod_lt m _ _ _ d
 obtain ⟨I,X,M,W,rfl,ai⟩:=Hy (b 1 31 F rfl rfl) u;obtain ⟨J,rfl,rfl,rfl,H⟩:=open_int Tryz.underlying3 (b 2 3 G rfl rfl) N;have k:=Hn H;clear y A;refine (OL a i D o V ah I X M W ai J k.1 k.2 ag P).mono fun e g ⟨S,c⟩=>?_;subst S;exact ⟨_,rfl,_,_,_,[],_,[],R,trodAll_mk1 (shut_bool Tryz.underlying4 _),(trodAll_cons_mk (Below.trod PY (by kernel_rfl) (of_decide_eq_true (by kernel_rfl)) B c Y) (trodAll_cons_mk (Below.trod PY (by kernel_rfl) (of_decide_eq_true (by kernel_rfl)) C c Z) (trodAll_cons_mk (shut_int Tryz.underlying3 H) trodAll_mk0))),rfl,c.frame _,fun h=>by cases h⟩
theorem Qo (b:Os) {a:Type} (enc:TypeId×Value->a):∃ c,DataW.whole enc Tryz.prog ((World.doorLaid Tryz.prog 400 b).forCall (fun _ _=>0) ⟨#[],#[zN,zN,zI 0],[]⟩).memory Tryz.f5.params.toList Rows.logKeptSpec.vars false #[zN,zN,zI 0].toList 8=some ([.nil,.nil,.lit (.int .i64 0)],[],c) :=
 ⟨[],by kernel_rfl⟩
theorem SL (a:Os) (m:a.Started) (b:Type) (enc:TypeId×Value->b) (F:Stop.Interp) :
 ReturnsInHanded {} Tryz.checked a 5 .any ((OpenSpec.ofChange Rows.logKeptSpec).preRow enc Tryz.prog Tryz.f5 Rows.logKeptRow.domain false Rows.logKeptRow.laid) (((OpenSpec.ofChange Rows.logKeptSpec).at F).post enc Tryz.prog Tryz.f5 false true false false):=by
 obtain ⟨o,l⟩:=Qo a enc;refine returnsInHanded_of_row (C:=Tryz.checked) (s:=(OpenSpec.ofChange Rows.logKeptSpec)) own m (by kernel_rfl) Tryz.func5
  (witness_row_atRef (enc:=enc) (C:=Tryz.checked) false (World.doorLaid Tryz.prog 400 a) #[zN,zN,zI 0] rfl (by kernel_rfl) (by kernel_rfl) (by kernel_rfl)
   (OpenSpec.preRow_of_cond 8 l (by kernel_rfl) (fun k i=>by cases i) (by kernel_rfl) (Ns a _))) ?_
 intro c d args f gs e j h _ n _ g _ _;exact U3 b enc c d args f gs e j h g
theorem PK:Rows.LogKeptSaid :=
 OpenClaim.holds_of_cond 5 Tryz.f5 rfl rfl rfl rfl rfl rfl rfl ⟨rfl,rfl,rfl,rfl,rfl⟩ rfl rfl rfl rfl rfl (by kernel_rfl) Tryz.func5 (by kernel_rfl)
  (of_decide_eq_true (by kernel_rfl)) (by unfold Func.isWrapper;first | (rw [if_pos (by decide +kernel)];kernel_rfl) | (rw [if_neg (by decide +kernel)];exact ⟨rfl,rfl⟩))
  (fun b c a enc _ F=>by rw [OpenClaim.pre_eq_preRow];exact SL b c a enc F)
theorem Qn (f:FuncId) (fn:Func) (c:Tryz.pinned.checked.prog.funcNamed "acreage/acreagelaw.LogKept" = some f) (d:Tryz.pinned.checked.prog.funcs[f]?=some fn) :
 true=Tryz.pinned.checked.prog.looks []/\∀ (j:Nat) t,fn.params[j]?=some t->Tryz.pinned.checked.prog.wantsStandIn t=false:=by
 obtain rfl:f=5:=Option.some.inj ((show Tryz.prog.funcNamed "acreage/acreagelaw.LogKept" = some 5 by kernel_rfl).symm.trans c) |>.symm;obtain rfl:fn=Tryz.f5:=(Option.some.inj (Tryz.func5.symm.trans d)).symm;refine ⟨by kernel_rfl,fun j t b=>?_⟩;rw [Tryz.params5] at b;have a:=Array.mem_of_getElem? b;simp only [List.mem_toArray,List.mem_cons,List.not_mem_nil,or_false] at a;rcases a with rfl | rfl | rfl
 ·exact (show Tryz.prog.wantsStandIn 37=false by kernel_rfl)
 ·exact (show Tryz.prog.wantsStandIn 31=false by kernel_rfl)
 ·exact (show Tryz.prog.wantsStandIn 3=false by kernel_rfl)
theorem LogKept_card:Rows.LogKeptCardSaid :=
 Claim7.holds_tied_plain_at .later [] _ _ _ _ PK (fun _ h=>by cases h) (by kernel_rfl) (fun _ h=>by cases h) logKept_row_tie rfl ⟨rfl,rfl⟩ (by kernel_rfl) rfl Qn (by kernel_rfl)
#print axioms LogKept_card
end Go.Proofs.YtckpdfkobdgjeaaGreatDoor
