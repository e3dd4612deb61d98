/- Contract of planBegun. -/
import Derived.Test.YtcgchicdmgllaafPlanC
namespace Go.Proofs.Ytcgchicdmgllaaf
open Go.RowKit

theorem fa_Check (w : World) (c d e : Nat) (top ck nx v : Int) (hv : planE ck nx (faL c top) (faB d e) = v) (hF : FarmIn w c d e top) :
    Calls Try.prog 10 #[.agg #[.int .i64 ck, .int .i64 nx, .slice (some ⟨c + 4, 0, none⟩) 4 4, .slice (some ⟨e + 3, 0, none⟩) 2 2]] w fun r w' => r = .returned (.int .i64 v) ∧ Below w.heap.size w w' := by
  have K := CheckS_any w ck nx _ _ _ _ _ _ _ _ hF.st
  rw [hv] at K
  exact K
/-- a box with a state in it -/
def StBox (w : World) (B : Nat) (a b c d : Value) : Prop := w.heap[B]? = some (.cells #[a, b, c, d] 25 (0, 0))
theorem StBox.later {w w' : World} {B : Nat} {a b c d : Value} (h : StBox w B a b c d) (hb : Below w.heap.size w w') : StBox w' B a b c d := (hb.block _ (Array.getElem?_eq_some_iff.1 h).1).trans h
theorem StBox.cells {w : World} {B : Nat} {a b c d : Value} (h : StBox w B a b c d) : w.cell? ⟨B, 0, none⟩ = some a ∧ w.cell? ⟨B, 1, none⟩ = some b ∧ w.cell? ⟨B, 2, none⟩ = some c ∧ w.cell? ⟨B, 3, none⟩ = some d := by
  unfold StBox at h
  refine ⟨?_, ?_, ?_, ?_⟩ <;> (rw [cell_of_row w B _ _ _ _ h]; rfl)
theorem StBox.new (w : World) (a b c d : Value) : StBox (w.alloc (.cells #[a, b, c, d] 25)) w.heap.size a b c d := heap_alloc_new w _

end Go.Proofs.Ytcgchicdmgllaaf
