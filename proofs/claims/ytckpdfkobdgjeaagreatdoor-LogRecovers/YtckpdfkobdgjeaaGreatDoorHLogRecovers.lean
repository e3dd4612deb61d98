/- LogRecovers: whatever queues and text it is handed, the call returns true, and its arguments read afterwards as they read before (log.errNone reads as the program's text lays it: tied). -/
import Derived.Test.YtckpdfkobdgjeaaGreatDoorHRefZA
import Derived.Test.YtckpdfkobdgjeaaGreatDoorHAll30
import Derived.Test.YtckpdfkobdgjeaaGreatDoorHFrameA
namespace Go.Proofs.YtckpdfkobdgjeaaGreatDoor
set_option maxRecDepth 100000
open Go.ChangeShapes Go.WideShapes Go.ChangeAt Go.RowKit
open Go.ChangeMaps (open_string shut_string)
theorem Sf (w:World) (a:Option Addr) (n cap:Nat) (l:QL) (h:QsIn w a n cap l) (t:ByteArray) (_ht:t.size<=9223372036854775807) (v:Value) (b:Zx w v) :
 zC 4 #[.slice a n cap,.string t] w fun e w'=>e=.returned (.bool true)/\Below w.heap.size w w':=SM OO w a n cap l h t v b
theorem WJ (c:Type) (enc:TypeId×Value->c) (a:World) (g:Nat) (args:Array Value) (n gs:List (DataW c)) (E:List MemPlace)
 (w:∀ (j:Nat) t v,Tryz.f4.params[j]?=some t->args[j]?=some v->Value.okWide Tryz.prog a .any g t v)
 (u:DataW.Whole enc Tryz.prog Tryz.f4.params.toList Rows.logRecoversSpec.vars false a args.toList n gs E) (G:laidMetH Tryz.prog [("acreage/log.errNone",Rows.laid_acreage_log_errNone)] a) :
 zC 4 args a fun e d=>∃ v,e=.returned v/\Rows.logRecoversSpec.post enc Tryz.prog Tryz.f4 false true false false a args v d:=by
 obtain ⟨U,H⟩:=L7 G;have b:∀ (j:Nat) t v,Tryz.f4.params[j]?=some t->args[j]?=some v->Value.okWide Tryz.prog a .any g t v:=w;have J:=u;obtain ⟨p,q,s,I,rfl,ad,ae⟩:=u;have r:DataW.TrodAll enc Tryz.prog a 0 (fun _=>true) true Tryz.f4.params.toList args.toList n p:=s;rw [Tryz.params4] at r b;obtain ⟨A,ai,W,Y,Q,ag,ab,rfl,rfl,o,R⟩:=trodAll_cons r;obtain ⟨B,aj,X,Z,af,ah,rfl,rfl,rfl,F,S⟩:=trodAll_cons R;obtain ⟨rfl,rfl,rfl⟩:=trodAll_nil S;obtain rfl:args=#[A,B]:=by cases args;simp_all
 obtain ⟨rfl,rfl⟩:=trodVars_none I;have y:=o;have P:∀ x∈Q,x.block<a.heap.size:=by obtain ⟨m,N⟩:=y;exact DataW.trod_lt m _ _ _ N
 obtain ⟨f,z,k,rfl⟩:=okWide_slice Tryz.underlying37 (b 0 37 A rfl rfl);obtain ⟨O,V⟩:∃ l,QsIn a f z k l:=by
  obtain ⟨aa,M⟩:=o;exact L1 (by simp [Value.cells]) M
 obtain ⟨D,rfl,rfl,rfl,C⟩:=open_string Tryz.underlying9 (b 1 9 B rfl rfl) F;clear s w;refine (Sf a f z k O V D C U H).mono fun e d ⟨L,i⟩=>?_;subst L;exact ⟨_,rfl,_,_,_,[],_,[],J,trodAll_mk1 (shut_bool Tryz.underlying4 _),(trodAll_cons_mk (Below.trod PY (by kernel_rfl) (of_decide_eq_true (by kernel_rfl)) y i P) (trodAll_cons_mk (shut_string Tryz.underlying9 C) trodAll_mk0)),rfl,i.frame _,fun h=>by cases h⟩
theorem Uh (b:Os) {a:Type} (enc:TypeId×Value->a):∃ c,DataW.whole enc Tryz.prog ((World.doorLaid Tryz.prog 400 b).forCall (fun _ _=>0) ⟨#[],#[zN,.string ByteArray.empty],[]⟩).memory Tryz.f4.params.toList Rows.logRecoversSpec.vars false #[zN,.string ByteArray.empty].toList 8=some ([.nil,.lit (.string [])],[],c) :=
 ⟨[],by kernel_rfl⟩
theorem VT (a:Os) (m:a.Started) (b:Type) (enc:TypeId×Value->b) (F:Stop.Interp) :
 ReturnsInHanded {} Tryz.checked a 4 .any ((OpenSpec.ofChange Rows.logRecoversSpec).preRow enc Tryz.prog Tryz.f4 Rows.logRecoversRow.domain false Rows.logRecoversRow.laid) (((OpenSpec.ofChange Rows.logRecoversSpec).at F).post enc Tryz.prog Tryz.f4 false true false false):=by
 obtain ⟨o,l⟩:=Uh a enc;refine returnsInHanded_of_row (C:=Tryz.checked) (s:=(OpenSpec.ofChange Rows.logRecoversSpec)) own m (by kernel_rfl) Tryz.func4
  (witness_row_atRef (enc:=enc) (C:=Tryz.checked) false (World.doorLaid Tryz.prog 400 a) #[zN,.string ByteArray.empty] rfl (by kernel_rfl) (by kernel_rfl) (by kernel_rfl)
   (OpenSpec.preRow_of_cond 8 l (by kernel_rfl) (fun k i=>by cases i) (by kernel_rfl) (Ns a _))) ?_
 intro c d args f gs e j h _ n _ g _ _;exact WJ b enc c d args f gs e j h g
theorem U4:Rows.LogRecoversSaid :=
 OpenClaim.holds_of_cond 4 Tryz.f4 rfl rfl rfl rfl rfl rfl rfl ⟨rfl,rfl,rfl,rfl,rfl⟩ rfl rfl rfl rfl rfl (by kernel_rfl) Tryz.func4 (by kernel_rfl)
  (of_decide_eq_true (by kernel_rfl)) (by unfold Func.isWrapper;first | (rw [if_pos (by decide +kernel)];kernel_rfl) | (rw [if_neg (by decide +kernel)];exact ⟨rfl,rfl⟩))
  (fun b c a enc _ F=>by rw [OpenClaim.pre_eq_preRow];exact VT b c a enc F)
theorem Ug (f:FuncId) (fn:Func) (c:Tryz.pinned.checked.prog.funcNamed "acreage/acreagelaw.LogRecovers" = some f) (d:Tryz.pinned.checked.prog.funcs[f]?=some fn) :
 true=Tryz.pinned.checked.prog.looks []/\∀ (j:Nat) t,fn.params[j]?=some t->Tryz.pinned.checked.prog.wantsStandIn t=false:=by
 obtain rfl:f=4:=Option.some.inj ((show Tryz.prog.funcNamed "acreage/acreagelaw.LogRecovers" = some 4 by kernel_rfl).symm.trans c) |>.symm;obtain rfl:fn=Tryz.f4:=(Option.some.inj (Tryz.func4.symm.trans d)).symm;refine ⟨by kernel_rfl,fun j t b=>?_⟩;rw [Tryz.params4] at b;have a:=Array.mem_of_getElem? b;simp only [List.mem_toArray,List.mem_cons,List.not_mem_nil,or_false] at a;rcases a with rfl | rfl
 ·exact (show Tryz.prog.wantsStandIn 37=false by kernel_rfl)
 ·exact (show Tryz.prog.wantsStandIn 9=false by kernel_rfl)
theorem LogRecovers_card:Rows.LogRecoversCardSaid :=
 Claim7.holds_tied_plain_at .later [] _ _ _ _ U4 (fun _ h=>by cases h) (by kernel_rfl) (fun _ h=>by cases h) logRecovers_row_tie rfl ⟨rfl,rfl⟩ (by kernel_rfl) rfl Ug (by kernel_rfl)
#print axioms LogRecovers_card
end Go.Proofs.YtckpdfkobdgjeaaGreatDoor
