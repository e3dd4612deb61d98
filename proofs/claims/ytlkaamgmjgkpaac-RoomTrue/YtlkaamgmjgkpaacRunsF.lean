/- Contracts of the reference's told, ValueOf, LeastOf, PlusOf, MinusOf, LesserOf and BumpOf: they answer just what the program's calls answer. -/
import Derived.Test.YtlkaamgmjgkpaacRunsE
namespace Go.Proofs.Ytlkaamgmjgkpaac
open Go.RowKit

theorem run_index61 (f : Nat → Int) (t : Int) (h0 : 0 ≤ t) (h1 : t < 48) (w : World) : (Instr.index 69 (.agg (tabA f)) (.int .i64 t)).run Try.prog w = .ok (.int .i64 (f t.toNat)) w := by
  have hg := tabA_get f t.toNat (by omega)
  have hu := Try.underlying69
  have h3 := Try.underlying3
  have hs : (sizeOf 3).run Try.prog w = .ok 1 w := by kernel_rfl
  simp only [Instr.index, Sem.run_bind, asIntOf, Sem.run_pure, Result.andThen_ok, run_underlying hu]
  rw [if_pos (by constructor <;> omega)]
  simp only [Sem.run_bind, hs, Result.andThen_ok, part, isAgg, run_underlying h3, Nat.mul_one, hg]
  rfl

theorem wpList_store_tab {ops : Array Oper} {rest : List Oper} {o : Oper} {a : Act} {w : World} {Q : Exit → Act → World → Prop} (hgd : o.guard = none) (x y : Operand) (ho : o.op = .store 69 x y)
    (g : Nat) (f : Nat → Int) (z : Array Value) (hx : a.eval x = .pointer (some ⟨g, 0, none⟩)) (hy : a.eval y = .agg (tabA f)) (hg : w.heap[g]? = some (.cells z 69 (0, 0))) (hz : z.size = 48)
    (h : ∀ W3, Tab W3 g f → (∀ k, k ≠ g → W3.heap[k]? = w.heap[k]?) → Below g w W3 → wpList Try.prog ops Q rest (a.put o.dst undef) W3) : wpList Try.prog ops Q (o :: rest) a w :=
  wpList_store_row hgd 69 x y ho g (tabA f) hx hy 69 z hg (size61 f) (by rw [tabA_size, hz]) (tabA_one f)
    (h _ (setRow_heap w g z _ 69 _ hg) (fun k hk => by simp only [World.setRow, Array.getElem?_modify]; rw [if_neg (by omega)]) (below_setRow (Below.refl _ _) (Nat.le_refl _) _))

theorem spread_all (w : World) (a : Option Addr) (n cap : Nat) (l : RunL) (h : RunsIn w a n cap l) (hF : Fine l) :
   Calls Try.prog 37 #[.slice a n cap] w fun e w' => e = .returned (.agg (tabA (vals l))) ∧ Below w.heap.size w w' := by
  obtain ⟨b, off, rfl, _⟩ := h.cells (by rw [h.len]; exact hF.1)
  exact spread_any w b off n cap l h hF

end Go.Proofs.Ytlkaamgmjgkpaac
