/- A region that draws its order, in a round of a loop over a function: as text Any; one operation, which all others come ahead of, may change old memory. -/
import Derived.Test.YtckpdfkobdgjeaaDoorKAny
import Derived.OrdersIn
import Derived.TacticsIn
import Derived.RangeFuncCalls
namespace Go.Proofs.YtckpdfkobdgjeaaDoor
open Go.RowKit
def noDefer (ops : Array Oper) : Bool := ops.all fun o => match o.op with
  | .defer _ => false
  | _ => true
def lastOk (ops : Array Oper) (c : Nat) : Bool := decide (ops.size = c + 1) && ((List.range c).all fun i => (List.range (c + 1)).any fun j => decide (i < j) && match ops[j]? with
  | some o => waitsFor o i
  | none => false)
theorem lastOk_at {ops : Array Oper} {c : Nat} (h : lastOk ops c = true) : ops.size = c + 1 ∧ ∀ i, i < c → ∃ j o, i < j ∧ j ≤ c ∧ ops[j]? = some o ∧ waitsFor o i = true := by
  simp only [lastOk, Bool.and_eq_true, decide_eq_true_eq, List.all_eq_true, List.mem_range, List.any_eq_true] at h
  refine ⟨h.1, fun i hi => ?_⟩
  obtain ⟨j, hj, hij, hw⟩ := h.2 i hi
  cases ho : ops[j]? with
  | none => rw [ho] at hw; cases hw
  | some o => rw [ho] at hw; exact ⟨j, o, hij, by omega, ho, hw⟩
theorem sem_round {ops : Array Oper} (h : noDefer ops = true) {l i : Nat} {o : Oper} (ho : ops[i]? = some o) (ρ : Operand → Value) : Oper.semAt (some l) ρ o = execOp ρ o := by
  refine Oper.semAt_some l ρ o fun c hc => ?_
  simp only [noDefer, Array.all_eq_true_iff_forall_mem] at h
  have := h o (Array.mem_of_getElem? ho)
  rw [hc] at this
  cases this
theorem calls_round {l n : Nat} {P : Program} {f : FuncId} {args : Array Value} {w : World} {R : Ending → World → Prop} (h : Calls P f args w R) : CallsIn (Fence.wide.inRound l) n P f args w R := CallsIn.inRound l (callsIn_wide.2 h)
structure RInvI (ops : Array Oper) (c : Nat) (W0 : World) (T0 : Array Value) (df : List Deferred) (D : Nat → Value → World → Prop) (listed : Array Bool) (a : Act) (w : World) : Prop where
  inv : RInv ops W0 T0 df D listed a w
  open_ : listed.getD c true = false
  closed : ∀ i o, ops[i]? = some o → listed.getD i false = true → ∀ j, waitsFor o j = true → listed.getD j false = true
theorem closed_all {ops : Array Oper} {c : Nat} (hl : lastOk ops c = true) {listed : Array Bool} (hcl : ∀ i o, ops[i]? = some o → listed.getD i false = true → ∀ j, waitsFor o j = true → listed.getD j false = true)
    (hc : ∀ o, ops[c]? = some o → ∀ j, waitsFor o j = true → listed.getD j false = true) : ∀ m i, c - i = m → i < c → listed.getD i false = true := by
  intro m
  induction m using Nat.strongRecOn with
  | _ m ih =>
    intro i hm hi
    obtain ⟨j, o, h1, h2, h3, h4⟩ := (lastOk_at hl).2 i hi
    by_cases e : j = c
    · subst e; exact hc o h3 i h4
    · exact hcl j o h3 (ih (c - j) (by omega) j rfl (by omega)) i h4
end Go.Proofs.YtckpdfkobdgjeaaDoor
