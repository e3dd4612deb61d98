/- Contracts of the statements' own field and treeBegun: what must be in any case is so. -/
import Derived.Test.YtcgchicdmgllaadTreeI
namespace Go.Proofs.Ytcgchicdmgllaad
open Go.RowKit

def sAll : ByteArray := ⟨#[97, 108, 108]⟩
def sNorth : ByteArray := ⟨#[110, 111, 114, 116, 104]⟩
def sSouth : ByteArray := ⟨#[115, 111, 117, 116, 104]⟩
def sBarn : ByteArray := ⟨#[98, 97, 114, 110]⟩
/-- the field: its caps lie in blocks c to c + 3; the north's Parent is p, the south has m -/
def fL (c : Nat) (p m : Int) : QL := [⟨sAll, -1, some ⟨c, 0, none⟩, 1, 1, [(0, 10)]⟩, ⟨sNorth, p, some ⟨c + 1, 0, none⟩, 2, 2, [(0, 8), (20, 4)]⟩, ⟨sSouth, 0, some ⟨c + 2, 0, none⟩, 1, 1, [(0, m)]⟩, ⟨sBarn, 1, some ⟨c + 3, 0, none⟩, 1, 1, [(0, 8)]⟩]
def fCells (c : Nat) (p : Int) : Array Value := #[.string sAll, .int .i64 (-1), .slice (some ⟨c, 0, none⟩) 1 1, .string sNorth, .int .i64 p, .slice (some ⟨c + 1, 0, none⟩) 2 2, .string sSouth, .int .i64 0, .slice (some ⟨c + 2, 0, none⟩) 1 1, .string sBarn, .int .i64 1, .slice (some ⟨c + 3, 0, none⟩) 1 1]
structure FieldIn (w : World) (c : Nat) (p m : Int) : Prop where
  b0 : w.heap[c]? = some (.cells #[.int .i64 0, .int .i64 10] 70 (0, 0))
  b1 : w.heap[c + 1]? = some (.cells #[.int .i64 0, .int .i64 8, .int .i64 20, .int .i64 4] 70 (0, 0))
  b2 : w.heap[c + 2]? = some (.cells #[.int .i64 0, .int .i64 m] 70 (0, 0))
  b3 : w.heap[c + 3]? = some (.cells #[.int .i64 0, .int .i64 8] 70 (0, 0))
  b4 : w.heap[c + 4]? = some (.cells (fCells c p) 72 (0, 0))
theorem runs_block {w : World} {g : Nat} {cs : Array Value} {t : TypeId} (h : w.heap[g]? = some (.cells cs t (0, 0))) (l : RunL) (n : Nat) (hc : cs.toList = cellsOf l) (hn : n = l.length) (hb : l.length ≤ 48) : RunsIn w (some ⟨g, 0, none⟩) n n l := by
  refine ⟨hn, Nat.le_refl _, by omega, by omega, fun _ => ⟨g, 0, rfl, fun i hi => ?_⟩⟩
  rw [cell_of_row w g _ _ _ _ h, cell_of_row w g _ _ _ _ h]
  have h1 := cellsOf_even l i (by omega)
  have h2 := cellsOf_odd l i (by omega)
  rw [← hc] at h1 h2
  simp only [Array.getElem?_toList] at h1 h2
  rw [Nat.zero_add]
  exact ⟨h1, h2⟩
theorem FieldIn.qs {w : World} {c : Nat} {p m : Int} (h : FieldIn w c p m) : QsIn w (some ⟨c + 4, 0, none⟩) 4 4 (fL c p m) := by
  refine ⟨rfl, Nat.le_refl _, by omega, fun _ => ⟨c + 4, 0, rfl, fun i hi => ?_⟩, fun i hi => ?_, fun i hi => ?_⟩
  · rw [cell_of_row w _ _ _ _ _ h.b4, cell_of_row w _ _ _ _ _ h.b4, cell_of_row w _ _ _ _ _ h.b4]
    match i, hi with
    | 0, _ => exact ⟨rfl, rfl, rfl⟩
    | 1, _ => exact ⟨rfl, rfl, rfl⟩
    | 2, _ => exact ⟨rfl, rfl, rfl⟩
    | 3, _ => exact ⟨rfl, rfl, rfl⟩
  · match i, hi with
    | 0, _ => exact runs_block h.b0 [(0, 10)] 1 rfl rfl (by decide)
    | 1, _ => exact runs_block h.b1 [(0, 8), (20, 4)] 2 rfl rfl (by decide)
    | 2, _ => exact runs_block h.b2 [(0, m)] 1 rfl rfl (by simp)
    | 3, _ => exact runs_block h.b3 [(0, 8)] 1 rfl rfl (by decide)
  · match i, hi with
    | 0, _ => show sAll.size ≤ 9223372036854775807; decide
    | 1, _ => show sNorth.size ≤ 9223372036854775807; decide
    | 2, _ => show sSouth.size ≤ 9223372036854775807; decide
    | 3, _ => show sBarn.size ≤ 9223372036854775807; decide
theorem FieldIn.later {w w' : World} {c : Nat} {p m : Int} (h : FieldIn w c p m) (hb : Below w.heap.size w w') : FieldIn w' c p m := by
  have hlt : c + 4 < w.heap.size := (Array.getElem?_eq_some_iff.1 h.b4).1
  exact ⟨(hb.block _ (by omega)).trans h.b0, (hb.block _ (by omega)).trans h.b1, (hb.block _ (by omega)).trans h.b2, (hb.block _ (by omega)).trans h.b3, (hb.block _ (by omega)).trans h.b4⟩
theorem FieldIn.parent {w : World} {c : Nat} {p m : Int} (h : FieldIn w c p m) (p' : Int) : FieldIn (w.setCell ⟨c + 4, 4, none⟩ (.int .i64 p')) c p' m := by
  refine ⟨(heap_setCell_other _ _ _ _ (by simp)).trans h.b0, (heap_setCell_other _ _ _ _ (by simp)).trans h.b1, (heap_setCell_other _ _ _ _ (by simp)).trans h.b2, (heap_setCell_other _ _ _ _ (by simp)).trans h.b3, ?_⟩
  rw [heap_setCell_same _ _ _ _ _ _ h.b4]
  rfl
theorem FieldIn.cap {w : World} {c : Nat} {p m : Int} (h : FieldIn w c p m) (m' : Int) : FieldIn (w.setCell ⟨c + 2, 1, none⟩ (.int .i64 m')) c p m' := by
  refine ⟨(heap_setCell_other _ _ _ _ (by simp)).trans h.b0, (heap_setCell_other _ _ _ _ (by simp)).trans h.b1, ?_, (heap_setCell_other _ _ _ _ (by simp)).trans h.b3, (heap_setCell_other _ _ _ _ (by simp)).trans h.b4⟩
  rw [heap_setCell_same _ _ _ _ _ _ h.b2]
  rfl

theorem five_new (w : World) (a b c d e : Obj) : (((((w.alloc a).alloc b).alloc c).alloc d).alloc e).heap[w.heap.size]? = some a ∧ (((((w.alloc a).alloc b).alloc c).alloc d).alloc e).heap[w.heap.size + 1]? = some b ∧
    (((((w.alloc a).alloc b).alloc c).alloc d).alloc e).heap[w.heap.size + 2]? = some c ∧ (((((w.alloc a).alloc b).alloc c).alloc d).alloc e).heap[w.heap.size + 3]? = some d ∧ (((((w.alloc a).alloc b).alloc c).alloc d).alloc e).heap[w.heap.size + 4]? = some e := by
  have s1 : (w.alloc a).heap.size = w.heap.size + 1 := by simp
  have s2 : ((w.alloc a).alloc b).heap.size = w.heap.size + 2 := by simp
  have s3 : (((w.alloc a).alloc b).alloc c).heap.size = w.heap.size + 3 := by simp
  have s4 : ((((w.alloc a).alloc b).alloc c).alloc d).heap.size = w.heap.size + 4 := by simp
  have n1 := heap_alloc_new w a
  have n2 := heap_alloc_new (w.alloc a) b
  have n3 := heap_alloc_new ((w.alloc a).alloc b) c
  have n4 := heap_alloc_new (((w.alloc a).alloc b).alloc c) d
  have n5 := heap_alloc_new ((((w.alloc a).alloc b).alloc c).alloc d) e
  rw [s1] at n2
  rw [s2] at n3
  rw [s3] at n4
  rw [s4] at n5
  refine ⟨?_, ?_, ?_, ?_, n5⟩
  · rw [Below.heap_alloc _ _ _ (by omega), Below.heap_alloc _ _ _ (by omega), Below.heap_alloc _ _ _ (by omega), Below.heap_alloc _ _ _ (by omega)]; exact n1
  · rw [Below.heap_alloc _ _ _ (by omega), Below.heap_alloc _ _ _ (by omega), Below.heap_alloc _ _ _ (by omega)]; exact n2
  · rw [Below.heap_alloc _ _ _ (by omega), Below.heap_alloc _ _ _ (by omega)]; exact n3
  · rw [Below.heap_alloc _ _ _ (by omega)]; exact n4
theorem five_below (w : World) (a b c d e : Obj) : Below w.heap.size w (((((w.alloc a).alloc b).alloc c).alloc d).alloc e) :=
  (((((Below.refl _ w).alloc (Nat.le_refl _) _).alloc (by simp) _).alloc (by simp; omega) _).alloc (by simp; omega) _).alloc (by simp; omega) _
theorem field_any (w : World) : Calls Try.prog 31 #[] w fun e w' => e = .returned (.slice (some ⟨w.heap.size + 4, 0, none⟩) 4 4) ∧ FieldIn w' w.heap.size 0 6 ∧ Below w.heap.size w w' := by
  go_enter Try.func31, Try.ntmps31
  go_wp2
  go_ret
  obtain ⟨h0, h1, h2, h3, h4⟩ := five_new w (.cells #[.int .i64 0, .int .i64 10] 70) (.cells #[.int .i64 0, .int .i64 8, .int .i64 20, .int .i64 4] 70) (.cells #[.int .i64 0, .int .i64 6] 70) (.cells #[.int .i64 0, .int .i64 8] 70) (.cells (fCells w.heap.size 0) 72)
  exact ⟨rfl, ⟨h0, h1, h2, h3, h4⟩, five_below w _ _ _ _ _⟩
theorem fl_ok (c : Nat) : chkT (fL c 0 6) = 0 := by rfl
theorem fl_par (c : Nat) : chkT (fL c 1 6) = 3 := by rfl
theorem fl_cap (c : Nat) : chkT (fL c 0 51) = 1 := by rfl
theorem fl_nil : chkT [] = 2 := by rfl
theorem fl_line (c : Nat) : lineR (fL c 0 6) 3 = [3, 1, 0] := by rfl
theorem fl_line4 (c : Nat) : lineR (fL c 0 6) 4 = [] := by rfl
theorem fl_e3 (c : Nat) : qErr (fL c 0 6) 3 = 0 := by rfl
theorem fl_e1 (c : Nat) : qErr (fL c 0 6) 1 = 0 := by rfl
theorem fl_e4 (c : Nat) : qErr (fL c 0 6) 4 = 6 := by rfl
theorem fl_under (c : Nat) : underR (fL c 0 6) 1 = [false, true, false, true] := by rfl
theorem fl_barn : isName sBarn = true := by rfl
theorem fl_b1 : isName ⟨#[98, 49]⟩ = false := by rfl
theorem fl_barn' : isName ⟨#[98, 97, 114, 110]⟩ = true := fl_barn
theorem qsIn_nil (w : World) : QsIn w none 0 0 [] := ⟨rfl, Nat.le_refl _, by simp, fun h => by simp at h, fun i hi => by omega, fun i hi => by omega⟩
theorem ints_lit (w : World) (l : List Int) (c : Array Value) (n : Nat) (hc : c.toList = l.map (Value.int .i64)) (hn : n = l.length) (hb : l.length ≤ 48) : IntsIn (w.alloc (.cells c 3)) (some ⟨w.heap.size, 0, none⟩) n n l := by
  refine ⟨hn, Nat.le_refl _, by omega, fun _ => ⟨w.heap.size, 0, rfl, fun i hi => ?_⟩⟩
  have h : c.toList[i]? = some (.int .i64 (l.getD i 0)) := by rw [hc]; simp [List.getElem?_eq_getElem (show i < l.length by omega)]
  rw [World.cell?_alloc_at _ _ _ _ rfl, Nat.zero_add]
  simpa only [Array.getElem?_toList] using h
theorem bools_lit (w : World) (l : List Bool) (c : Array Value) (n : Nat) (hc : c.toList = l.map Value.bool) (hn : n = l.length) (hb : l.length ≤ 48) : BoolsIn (w.alloc (.cells c 4)) (some ⟨w.heap.size, 0, none⟩) n n l := by
  refine ⟨hn, Nat.le_refl _, by omega, fun _ => ⟨w.heap.size, 0, rfl, fun i hi => ?_⟩⟩
  have h : c.toList[i]? = some (.bool (l.getD i false)) := by rw [hc]; simp [List.getElem?_eq_getElem (show i < l.length by omega)]
  rw [World.cell?_alloc_at _ _ _ _ rfl, Nat.zero_add]
  simpa only [Array.getElem?_toList] using h

end Go.Proofs.Ytcgchicdmgllaad
