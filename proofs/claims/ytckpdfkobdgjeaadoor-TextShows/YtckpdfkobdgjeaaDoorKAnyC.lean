/- A region that draws its order, as text Any; some operations may change what is not older than the region; what they spoil is looked at by nobody behind them. -/
import Derived.Test.YtckpdfkobdgjeaaDoorKAny
namespace Go.Proofs.YtckpdfkobdgjeaaDoor
open Go.RowKit
def behindTo (ops : Array Oper) (c : Nat) : Nat → List Nat
  | 0 => []
  | n + 1 => if (match ops[n]? with | some o => waitsFor o c || (behindTo ops c n).any (waitsFor o) | none => false) = true then n :: behindTo ops c n else behindTo ops c n
theorem behind_listed {ops : Array Oper} {c : Nat} {listed : Array Bool} (hcl : ∀ i o, ops[i]? = some o → listed.getD i false = true → ∀ j, waitsFor o j = true → listed.getD j false = true) : ∀ {n i : Nat}, i ∈ behindTo ops c n → listed.getD i false = true → listed.getD c false = true
  | 0, i, h, _ => by simp [behindTo] at h
  | n + 1, i, h, hl => by
    rw [behindTo] at h
    cases hw : (match ops[n]? with | some o => waitsFor o c || (behindTo ops c n).any (waitsFor o) | none => false) with
    | false =>
      rw [hw] at h
      exact behind_listed hcl (by simpa using h) hl
    | true =>
      rw [hw, if_pos rfl] at h
      rcases List.mem_cons.1 h with e | h
      · subst e
        cases ho : ops[i]? with
        | none => rw [ho] at hw; cases hw
        | some o =>
          rw [ho] at hw
          simp only [Bool.or_eq_true, List.any_eq_true] at hw
          rcases hw with hw | ⟨j, hj, hw⟩
          · exact hcl i o ho hl c hw
          · exact behind_listed hcl hj (hcl i o ho hl j hw)
      · exact behind_listed hcl h hl
def dd (cs : List (Nat × List Nat)) (i : Nat) : Option (List Nat) := (cs.find? fun x => x.1 == i).map (·.2)
theorem dd_mem {cs : List (Nat × List Nat)} {c : Nat} {dead : List Nat} (h : dd cs c = some dead) : (c, dead) ∈ cs := by
  unfold dd at h
  cases hf : cs.find? fun x => x.1 == c with
  | none => rw [hf] at h; cases h
  | some x =>
    rw [hf] at h
    have h1 := List.find?_some hf
    have h2 := List.mem_of_find?_eq_some hf
    simp at h1 h
    rw [← h1, ← h]
    exact h2
def spoilt (cs : List (Nat × List Nat)) (listed : Array Bool) (i : Nat) : Prop := ∃ c dead, dd cs c = some dead ∧ listed.getD c false = true ∧ dead.contains i = true
def spoiltB (cs : List (Nat × List Nat)) (i : Nat) : Bool := cs.any fun x => x.2.contains i
def slotV (o : Oper) (T : Array Value) : Value := match o.dst with
  | some d => T.getD d undef
  | none => undef
def noDst (ops : Array Oper) (i : Nat) : Bool := match ops[i]? with
  | some o => o.dst == none
  | none => false
end Go.Proofs.YtckpdfkobdgjeaaDoor
