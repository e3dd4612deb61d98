/- RestStates: whatever state and act it is handed, of size at most 1048576, the call returns true, and its arguments read afterwards as they read before (log.errNone reads as the program's text lays it: tied). -/
import Derived.Test.YtckpdfkobdgjeaaGreatDoorJRefZA
import Derived.Test.YtckpdfkobdgjeaaGreatDoorJRest
import Derived.Test.YtckpdfkobdgjeaaGreatDoorJFrameA
namespace Go.Proofs.YtckpdfkobdgjeaaGreatDoor
set_option maxRecDepth 100000
open Go.ChangeShapes Go.WideShapes Go.ChangeAt Go.RowKit
open Go.ChangeMaps (open_string shut_string)
theorem Ec [Inhabited Mk] (w:World) (m:(default:Mk).k<=w.heap.size) (c n:Int) (g:Option Addr) (j i:Nat) (l:QL) (a:Option Addr) (f d:Nat) (b:BL) (h:zY w g j i l a f d b) (x:Ac) (q:wl w x) (_hpn:x.rq.pn<=1048576) (o:x.cn<=1048576) (v:Value) (p:Zx w v) :
 zC 8 #[.agg (zS c n g j i a f d),.agg #[zI x.kind,zI x.n,zI x.rq.queue,zI x.rq.fr,zI x.rq.un,zI x.rq.kind,.slice x.rq.pa x.rq.pn x.rq.pc,.slice x.ca x.cn x.cc]] w fun e w'=>e=.returned (.bool true)/\Below w.heap.size w w':=Ek OO w m c n g j i l a f d b h x q o v p
theorem SX (b:Type) (enc:TypeId×Value->b) (a:World) (n:Nat) (args:Array Value) (d gs:List (DataW b)) (E:List MemPlace)
 (z:∀ (j:Nat) t v,Tryz.f8.params[j]?=some t->args[j]?=some v->Value.okWide Tryz.prog a .any n t v)
 (w:DataW.Whole enc Tryz.prog Tryz.f8.params.toList Rows.restStatesSpec.vars false a args.toList d gs E) (y:Rows.uptoSmall b (d++gs)=true) (H:laidMetH Tryz.prog [("acreage/log.errNone",Rows.laid_acreage_log_errNone)] a) :
 zC 8 args a fun e l=>∃ v,e=.returned v/\Rows.restStatesSpec.post enc Tryz.prog Tryz.f8 false true false false a args v l:=by
 letI:Inhabited Mk:=⟨⟨a.heap.size⟩⟩
 obtain ⟨af,I⟩:=L7 H;have i:∀ (j:Nat) t v,Tryz.f8.params[j]?=some t->args[j]?=some v->Value.okWide Tryz.prog a .any n t v:=z;have L:=w;obtain ⟨p,q,u,J,rfl,an,ao⟩:=w;have s:DataW.TrodAll enc Tryz.prog a 0 (fun _=>true) true Tryz.f8.params.toList args.toList d p:=u;rw [Tryz.params8] at s i;obtain ⟨C,av,ai,ak,P,ap,am,rfl,rfl,o,R⟩:=trodAll_cons s;obtain ⟨D,aw,aj,al,Q,aq,rfl,rfl,rfl,r,S⟩:=trodAll_cons R;obtain ⟨rfl,rfl,rfl⟩:=trodAll_nil S;obtain rfl:args=#[C,D]:=by cases args;simp_all
 obtain ⟨rfl,rfl⟩:=trodVars_none J;have A:=o;have N:∀ x∈P,x.block<a.heap.size:=by obtain ⟨m,g⟩:=A;exact DataW.trod_lt m _ _ _ g
 obtain ⟨Y,aa,ab,ae,ad,Z,V,X,W,U,rfl,ag⟩:=ED (i 0 40 C rfl rfl) o (Nat.le_refl _);have B:=r;have O:∀ x∈Q,x.block<a.heap.size:=by obtain ⟨m,g⟩:=B;exact DataW.trod_lt m _ _ _ g
 obtain ⟨k,rfl,ah,au,ar⟩:=EB (i 1 27 D rfl rfl) r (Nat.le_refl _);have G:k.rq.pn<=1048576:=by
  have f:=Eh y;simp only [Rows.uptoBulkAll,List.append_nil] at f;omega
 have F:k.cn<=1048576:=by
  have f:=Eh y;simp only [Rows.uptoBulkAll,List.append_nil] at f;omega
 clear u z;refine (Ec a (Nat.le_refl _) Y aa ab ae ad Z V X W U ag k ah G F af I).mono fun e l ⟨M,c⟩=>?_;subst M;exact ⟨_,rfl,_,_,_,[],_,[],L,trodAll_mk1 (shut_bool Tryz.underlying4 _),(trodAll_cons_mk (Below.trod PY (by kernel_rfl) (of_decide_eq_true (by kernel_rfl)) A c N) (trodAll_cons_mk (Below.trod PY (by kernel_rfl) (of_decide_eq_true (by kernel_rfl)) B c O) trodAll_mk0)),rfl,c.frame _,fun h=>by cases h⟩
theorem F9 (b:Os) {a:Type} (enc:TypeId×Value->a):∃ c,DataW.whole enc Tryz.prog ((World.doorLaid Tryz.prog 400 b).forCall (fun _ _=>0) ⟨#[],#[.agg zZ,.agg #[zI 0,zI 0,zI 0,zI 0,zI 0,zI 0,zN,zN]],[]⟩).memory Tryz.f8.params.toList Rows.restStatesSpec.vars false #[.agg zZ,.agg #[zI 0,zI 0,zI 0,zI 0,zI 0,zI 0,zN,zN]].toList 8=some ([.agg [.lit (.int .i64 0),.lit (.int .i64 0),.nil,.nil],.agg [.lit (.int .i64 0),.lit (.int .i64 0),.agg [.lit (.int .i64 0),.lit (.int .i64 0),.lit (.int .i64 0),.lit (.int .i64 0),.nil],.nil]],[],c) :=
 ⟨[],by kernel_rfl⟩
theorem F6 (a:Os) (n:a.Started) (b:Type) (enc:TypeId×Value->b) (F:Stop.Interp) :
 ReturnsInHanded {} Tryz.checked a 8 .any ((Rows.OpenSpec.upto Rows.restStatesSpec).preRow enc Tryz.prog Tryz.f8 Rows.restStatesUptoRow.domain false Rows.restStatesUptoRow.laid) (((Rows.OpenSpec.upto Rows.restStatesSpec).at F).post enc Tryz.prog Tryz.f8 false true false false):=by
 letI:Inhabited Mk:=⟨⟨0⟩⟩
 obtain ⟨o,m⟩:=F9 a enc;refine returnsInHanded_of_row (C:=Tryz.checked) (s:=(Rows.OpenSpec.upto Rows.restStatesSpec)) own n (by kernel_rfl) Tryz.func8
  (witness_row_atRef (enc:=enc) (C:=Tryz.checked) false (World.doorLaid Tryz.prog 400 a) #[.agg zZ,.agg #[zI 0,zI 0,zI 0,zI 0,zI 0,zI 0,zN,zN]] rfl (by kernel_rfl) (by kernel_rfl) (by kernel_rfl)
   (OpenSpec.preRow_of_cond 8 m (by kernel_rfl) (fun k j=>by cases j;kernel_rfl) (by kernel_rfl) (Ns a _))) ?_
 intro c d args f gs e l h _ i _ g _ _;exact SX b enc c d args f gs e l h (i _ rfl) g
theorem Eb:Rows.RestStatesUptoSaid :=
 OpenClaim.holds_of_cond 8 Tryz.f8 rfl rfl rfl rfl rfl rfl rfl ⟨rfl,rfl,rfl,rfl,rfl⟩ rfl rfl rfl rfl rfl (by kernel_rfl) Tryz.func8 (by kernel_rfl)
  (of_decide_eq_true (by kernel_rfl)) (by unfold Func.isWrapper;first | (rw [if_pos (by decide +kernel)];kernel_rfl) | (rw [if_neg (by decide +kernel)];exact ⟨rfl,rfl⟩))
  (fun b c a enc _ F=>by rw [OpenClaim.pre_eq_preRow];exact F6 b c a enc F)
theorem F8 (f:FuncId) (fn:Func) (c:Tryz.pinned.checked.prog.funcNamed "acreage/acreagelaw.RestStates" = some f) (d:Tryz.pinned.checked.prog.funcs[f]?=some fn) :
 true=Tryz.pinned.checked.prog.looks []/\∀ (j:Nat) t,fn.params[j]?=some t->Tryz.pinned.checked.prog.wantsStandIn t=false:=by
 obtain rfl:f=8:=Option.some.inj ((show Tryz.prog.funcNamed "acreage/acreagelaw.RestStates" = some 8 by kernel_rfl).symm.trans c) |>.symm;obtain rfl:fn=Tryz.f8:=(Option.some.inj (Tryz.func8.symm.trans d)).symm;refine ⟨by kernel_rfl,fun j t b=>?_⟩;rw [Tryz.params8] at b;have a:=Array.mem_of_getElem? b;simp only [List.mem_toArray,List.mem_cons,List.not_mem_nil,or_false] at a;rcases a with rfl | rfl
 ·exact (show Tryz.prog.wantsStandIn 40=false by kernel_rfl)
 ·exact (show Tryz.prog.wantsStandIn 27=false by kernel_rfl)
theorem RestStates_card:Rows.RestStatesUptoCardSaid :=
 Claim7.holds_tied_plain_at .later [] _ _ _ _ Eb (fun _ h=>by cases h) (by kernel_rfl) (fun _ h=>by cases h) restStatesUpto_row_tie rfl ⟨rfl,rfl⟩ (by kernel_rfl) rfl F8 (by kernel_rfl)
#print axioms RestStates_card
end Go.Proofs.YtckpdfkobdgjeaaGreatDoor
