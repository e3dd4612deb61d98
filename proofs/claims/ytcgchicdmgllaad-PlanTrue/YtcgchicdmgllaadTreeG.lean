/- Contracts of the reference's beneath, UnderOf, SameInts and SameBools. -/
import Derived.Test.YtcgchicdmgllaadTreeF
import Derived.Deep.OwnRows
namespace Go.Proofs.Ytcgchicdmgllaad
open Go.RowKit

/-- does q stand among the first k? -/
def hasTo (zs : List Int) (q : Int) : Nat → Bool
  | 0 => false
  | k + 1 => hasTo zs q k || (zs.getD k 0 == q)
theorem hasTo_true {zs : List Int} {q : Int} {k : Nat} (h : (zs.getD k 0 == q) = true) : ∀ n, k < n → hasTo zs q n = true
  | 0, hn => by omega
  | n + 1, hn => by
    by_cases e : k = n
    · subst e; rw [hasTo, h]; simp
    · rw [hasTo, hasTo_true h n (by omega)]; rfl
/-- B2: does q stand in k's line? -/
def standsIn (l : QL) (k q : Int) : Bool := hasTo (lineOf l k) q (lineOf l k).length

/-- yes and no in memory -/
structure BoolsIn (w : World) (a : Option Addr) (n cap : Nat) (l : List Bool) : Prop where
  len : n = l.length
  le : n ≤ cap
  capb : cap ≤ 9223372036854775807
  cells : 0 < n → ∃ b off, a = some ⟨b, off, none⟩ ∧ ∀ i, i < n → w.cell? ⟨b, off + i, none⟩ = some (.bool (l.getD i false))
theorem BoolsIn.later {w w' : World} {a : Option Addr} {n cap : Nat} {l : List Bool} (h : BoolsIn w a n cap l) (hb : Below w.heap.size w w') : BoolsIn w' a n cap l := by
  refine ⟨h.len, h.le, h.capb, fun hp => ?_⟩
  obtain ⟨b, off, ha, hc⟩ := h.cells hp
  exact ⟨b, off, ha, fun i hi => cell_later hb (hc i hi)⟩
theorem boolsIn_nil (w : World) : BoolsIn w none 0 0 [] := ⟨rfl, Nat.le_refl _, by simp, fun h => by simp at h⟩

/-- B2: of each queue, whether q stands in its line -/
def underOf (l : QL) (n : Nat) (q : Int) : List Bool := (List.range n).map fun (k : Nat) => standsIn l (k : Int) q
theorem underOf_len (l : QL) (n : Nat) (q : Int) : (underOf l n q).length = n := by simp [underOf]
theorem underOf_get (l : QL) (n : Nat) (q : Int) (k : Nat) (h : k < n) : (underOf l n q).getD k false = standsIn l (k : Int) q := by simp [underOf, List.getD, h]
theorem Try.info4 : (Try.prog.info? 4).map (fun i => (i.zero, i.size, i.bytes)) = some (some (.bool false), 1, 1) := by kernel_rfl
theorem bools_row {w : World} {g n : Nat} {f : Nat → Value} {l : List Bool} (hn : n = l.length) (h : w.rowIs g 4 n f) (hf : ∀ i, i < n → f i = .bool (l.getD i false)) (hb : n ≤ 5) : BoolsIn w (some ⟨g, 0, none⟩) n n l :=
  ⟨hn, Nat.le_refl _, by omega, fun _ => ⟨g, 0, rfl, fun i hi => by rw [Nat.zero_add, h.cell hi, hf i hi]⟩⟩

end Go.Proofs.Ytcgchicdmgllaad
