/- Contracts of the statements' own field and treeBegun: what must be in any case is so. -/
import Derived.Test.YtphcphbmojioiaaTreeI
namespace Go.Proofs.Ytphcphbmojioiaa
open Go.RowKit

def sAll : ByteArray := ⟨#[97, 108, 108]⟩
def sNorth : ByteArray := ⟨#[110, 111, 114, 116, 104]⟩
def sSouth : ByteArray := ⟨#[115, 111, 117, 116, 104]⟩
def sBarn : ByteArray := ⟨#[98, 97, 114, 110]⟩
/-- the field: its caps lie in blocks c to c + 3; the north's Parent is p, the south has m -/
def fL (c : Nat) (p m : Int) : QL := [⟨sAll, -1, some ⟨c, 0, none⟩, 1, 1, [(0, 10)]⟩, ⟨sNorth, p, some ⟨c + 1, 0, none⟩, 2, 2, [(0, 8), (20, 4)]⟩, ⟨sSouth, 0, some ⟨c + 2, 0, none⟩, 1, 1, [(0, m)]⟩, ⟨sBarn, 1, some ⟨c + 3, 0, none⟩, 1, 1, [(0, 8)]⟩]
def fCells (c : Nat) (p : Int) : Array Value := #[.string sAll, .int .i64 (-1), .slice (some ⟨c, 0, none⟩) 1 1, .string sNorth, .int .i64 p, .slice (some ⟨c + 1, 0, none⟩) 2 2, .string sSouth, .int .i64 0, .slice (some ⟨c + 2, 0, none⟩) 1 1, .string sBarn, .int .i64 1, .slice (some ⟨c + 3, 0, none⟩) 1 1]
structure FieldIn (w : World) (c : Nat) (p m : Int) : Prop where
  b0 : w.heap[c]? = some (.cells #[.int .i64 0, .int .i64 10] 56 (0, 0))
  b1 : w.heap[c + 1]? = some (.cells #[.int .i64 0, .int .i64 8, .int .i64 20, .int .i64 4] 56 (0, 0))
  b2 : w.heap[c + 2]? = some (.cells #[.int .i64 0, .int .i64 m] 56 (0, 0))
  b3 : w.heap[c + 3]? = some (.cells #[.int .i64 0, .int .i64 8] 56 (0, 0))
  b4 : w.heap[c + 4]? = some (.cells (fCells c p) 53 (0, 0))
theorem runs_block {w : World} {g : Nat} {cs : Array Value} {t : TypeId} (h : w.heap[g]? = some (.cells cs t (0, 0))) (l : RunL) (n : Nat) (hc : cs.toList = cellsOf l) (hn : n = l.length) (hb : l.length ≤ 48) : RunsIn w (some ⟨g, 0, none⟩) n n l := by
  refine ⟨hn, Nat.le_refl _, by omega, by omega, fun _ => ⟨g, 0, rfl, fun i hi => ?_⟩⟩
  rw [cell_of_row w g _ _ _ _ h, cell_of_row w g _ _ _ _ h]
  have h1 := cellsOf_even l i (by omega)
  have h2 := cellsOf_odd l i (by omega)
  rw [← hc] at h1 h2
  simp only [Array.getElem?_toList] at h1 h2
  rw [Nat.zero_add]
  exact ⟨h1, h2⟩
theorem FieldIn.qs {w : World} {c : Nat} {p m : Int} (h : FieldIn w c p m) : QsIn w (some ⟨c + 4, 0, none⟩) 4 4 (fL c p m) := by
  refine ⟨rfl, Nat.le_refl _, by omega, fun _ => ⟨c + 4, 0, rfl, fun i hi => ?_⟩, fun i hi => ?_, fun i hi => ?_⟩
  · rw [cell_of_row w _ _ _ _ _ h.b4, cell_of_row w _ _ _ _ _ h.b4, cell_of_row w _ _ _ _ _ h.b4]
    match i, hi with
    | 0, _ => exact ⟨rfl, rfl, rfl⟩
    | 1, _ => exact ⟨rfl, rfl, rfl⟩
    | 2, _ => exact ⟨rfl, rfl, rfl⟩
    | 3, _ => exact ⟨rfl, rfl, rfl⟩
  · match i, hi with
    | 0, _ => exact runs_block h.b0 [(0, 10)] 1 rfl rfl (by decide)
    | 1, _ => exact runs_block h.b1 [(0, 8), (20, 4)] 2 rfl rfl (by decide)
    | 2, _ => exact runs_block h.b2 [(0, m)] 1 rfl rfl (by simp)
    | 3, _ => exact runs_block h.b3 [(0, 8)] 1 rfl rfl (by decide)
  · match i, hi with
    | 0, _ => show sAll.size ≤ 9223372036854775807; decide
    | 1, _ => show sNorth.size ≤ 9223372036854775807; decide
    | 2, _ => show sSouth.size ≤ 9223372036854775807; decide
    | 3, _ => show sBarn.size ≤ 9223372036854775807; decide
theorem FieldIn.later {w w' : World} {c : Nat} {p m : Int} (h : FieldIn w c p m) (hb : Below w.heap.size w w') : FieldIn w' c p m := by
  have hlt : c + 4 < w.heap.size := (Array.getElem?_eq_some_iff.1 h.b4).1
  exact ⟨(hb.block _ (by omega)).trans h.b0, (hb.block _ (by omega)).trans h.b1, (hb.block _ (by omega)).trans h.b2, (hb.block _ (by omega)).trans h.b3, (hb.block _ (by omega)).trans h.b4⟩
theorem FieldIn.parent {w : World} {c : Nat} {p m : Int} (h : FieldIn w c p m) (p' : Int) : FieldIn (w.setCell ⟨c + 4, 4, none⟩ (.int .i64 p')) c p' m := by
  refine ⟨(heap_setCell_other _ _ _ _ (by simp)).trans h.b0, (heap_setCell_other _ _ _ _ (by simp)).trans h.b1, (heap_setCell_other _ _ _ _ (by simp)).trans h.b2, (heap_setCell_other _ _ _ _ (by simp)).trans h.b3, ?_⟩
  rw [heap_setCell_same _ _ _ _ _ _ h.b4]
  rfl
theorem FieldIn.cap {w : World} {c : Nat} {p m : Int} (h : FieldIn w c p m) (m' : Int) : FieldIn (w.setCell ⟨c + 2, 1, none⟩ (.int .i64 m')) c p m' := by
  refine ⟨(heap_setCell_other _ _ _ _ (by simp)).trans h.b0, (heap_setCell_other _ _ _ _ (by simp)).trans h.b1, ?_, (heap_setCell_other _ _ _ _ (by simp)).trans h.b3, (heap_setCell_other _ _ _ _ (by simp)).trans h.b4⟩
  rw [heap_setCell_same _ _ _ _ _ _ h.b2]
  rfl

theorem five_new (w : World) (a b c d e : Obj) : (((((w.alloc a).alloc b).alloc c).alloc d).alloc e).heap[w.heap.size]? = some a ∧ (((((w.alloc a).alloc b).alloc c).alloc d).alloc e).heap[w.heap.size + 1]? = some b ∧
    (((((w.alloc a).alloc b).alloc c).alloc d).alloc e).heap[w.heap.size + 2]? = some c ∧ (((((w.alloc a).alloc b).alloc c).alloc d).alloc e).heap[w.heap.size + 3]? = some d ∧ (((((w.alloc a).alloc b).alloc c).alloc d).alloc e).heap[w.heap.size + 4]? = some e := by
  have s1 : (w.alloc a).heap.size = w.heap.size + 1 := by simp
  have s2 : ((w.alloc a).alloc b).heap.size = w.heap.size + 2 := by simp
  have s3 : (((w.alloc a).alloc b).alloc c).heap.size = w.heap.size + 3 := by simp
  have s4 : ((((w.alloc a).alloc b).alloc c).alloc d).heap.size = w.heap.size + 4 := by simp
  have n1 := heap_alloc_new w a
  have n2 := heap_alloc_new (w.alloc a) b
  have n3 := heap_alloc_new ((w.alloc a).alloc b) c
  have n4 := heap_alloc_new (((w.alloc a).alloc b).alloc c) d
  have n5 := heap_alloc_new ((((w.alloc a).alloc b).alloc c).alloc d) e
  rw [s1] at n2
  rw [s2] at n3
  rw [s3] at n4
  rw [s4] at n5
  refine ⟨?_, ?_, ?_, ?_, n5⟩
  · rw [Below.heap_alloc _ _ _ (by omega), Below.heap_alloc _ _ _ (by omega), Below.heap_alloc _ _ _ (by omega), Below.heap_alloc _ _ _ (by omega)]; exact n1
  · rw [Below.heap_alloc _ _ _ (by omega), Below.heap_alloc _ _ _ (by omega), Below.heap_alloc _ _ _ (by omega)]; exact n2
  · rw [Below.heap_alloc _ _ _ (by omega), Below.heap_alloc _ _ _ (by omega)]; exact n3
  · rw [Below.heap_alloc _ _ _ (by omega)]; exact n4
theorem five_below (w : World) (a b c d e : Obj) : Below w.heap.size w (((((w.alloc a).alloc b).alloc c).alloc d).alloc e) :=
  (((((Below.refl _ w).alloc (Nat.le_refl _) _).alloc (by simp) _).alloc (by simp; omega) _).alloc (by simp; omega) _).alloc (by simp; omega) _
theorem field_any (w : World) : Calls Try.prog 59 #[] w fun e w' => e = .returned (.slice (some ⟨w.heap.size + 4, 0, none⟩) 4 4) ∧ FieldIn w' w.heap.size 0 6 ∧ Below w.heap.size w w' := by
  go_enter Try.func59, Try.ntmps59
  go_wp2
  go_ret
  obtain ⟨h0, h1, h2, h3, h4⟩ := five_new w (.cells #[.int .i64 0, .int .i64 10] 56) (.cells #[.int .i64 0, .int .i64 8, .int .i64 20, .int .i64 4] 56) (.cells #[.int .i64 0, .int .i64 6] 56) (.cells #[.int .i64 0, .int .i64 8] 56) (.cells (fCells w.heap.size 0) 53)
  exact ⟨rfl, ⟨h0, h1, h2, h3, h4⟩, five_below w _ _ _ _ _⟩
theorem fl_ok (c : Nat) : chkT (fL c 0 6) = 0 := by rfl
theorem fl_par (c : Nat) : chkT (fL c 1 6) = 3 := by rfl
theorem fl_cap (c : Nat) : chkT (fL c 0 51) = 1 := by rfl
theorem fl_nil : chkT [] = 2 := by rfl
theorem fl_line (c : Nat) : lineR (fL c 0 6) 3 = [3, 1, 0] := by rfl
theorem fl_line4 (c : Nat) : lineR (fL c 0 6) 4 = [] := by rfl
theorem fl_e3 (c : Nat) : qErr (fL c 0 6) 3 = 0 := by rfl
theorem fl_e1 (c : Nat) : qErr (fL c 0 6) 1 = 0 := by rfl
theorem fl_e4 (c : Nat) : qErr (fL c 0 6) 4 = 6 := by rfl
theorem fl_under (c : Nat) : underR (fL c 0 6) 1 = [false, true, false, true] := by rfl
theorem fl_barn : isName sBarn = true := by rfl
theorem fl_b1 : isName ⟨#[98, 49]⟩ = false := by rfl
theorem fl_barn' : isName ⟨#[98, 97, 114, 110]⟩ = true := fl_barn
theorem qsIn_nil (w : World) : QsIn w none 0 0 [] := ⟨rfl, Nat.le_refl _, by simp, fun h => by simp at h, fun i hi => by omega, fun i hi => by omega⟩
theorem ints_lit (w : World) (l : List Int) (c : Array Value) (n : Nat) (hc : c.toList = l.map (Value.int .i64)) (hn : n = l.length) (hb : l.length ≤ 48) : IntsIn (w.alloc (.cells c 3)) (some ⟨w.heap.size, 0, none⟩) n n l := by
  refine ⟨hn, Nat.le_refl _, by omega, fun _ => ⟨w.heap.size, 0, rfl, fun i hi => ?_⟩⟩
  have h : c.toList[i]? = some (.int .i64 (l.getD i 0)) := by rw [hc]; simp [List.getElem?_eq_getElem (show i < l.length by omega)]
  rw [World.cell?_alloc_at _ _ _ _ rfl, Nat.zero_add]
  simpa only [Array.getElem?_toList] using h
theorem bools_lit (w : World) (l : List Bool) (c : Array Value) (n : Nat) (hc : c.toList = l.map Value.bool) (hn : n = l.length) (hb : l.length ≤ 48) : BoolsIn (w.alloc (.cells c 4)) (some ⟨w.heap.size, 0, none⟩) n n l := by
  refine ⟨hn, Nat.le_refl _, by omega, fun _ => ⟨w.heap.size, 0, rfl, fun i hi => ?_⟩⟩
  have h : c.toList[i]? = some (.bool (l.getD i false)) := by rw [hc]; simp [List.getElem?_eq_getElem (show i < l.length by omega)]
  rw [World.cell?_alloc_at _ _ _ _ rfl, Nat.zero_add]
  simpa only [Array.getElem?_toList] using h

set_option maxHeartbeats 2000000 in
theorem treeBegun_any (w : World) : Calls Try.prog 31 #[] w fun e w' => e = .returned (.bool true) ∧ Below w.heap.size w w' := by
  go_enter Try.func31, Try.ntmps31
  go_wp2_with fail
  refine (field_any w).mono ?_
  rintro e w1 ⟨rfl, F1, B1⟩
  have B1 := hid B1
  go_wp2_with fail
  have K := Line_any w1 _ _ _ _ 3 F1.qs
  rw [fl_line, fl_e3] at K
  refine K.mono ?_
  clear K F1
  rintro e w2 ⟨a2, n2, cap2, rfl, I2, B⟩
  obtain rfl : n2 = 3 := I2.len
  have I2 := hid I2
  have B2 := hid (below_from B1.out B)
  clear B B1
  go_wp2_with fail
  refine (field_any w2).mono ?_
  rintro e w3 ⟨rfl, F1, B⟩
  have I3 := hid (I2.out.later B)
  have B3 := hid (below_from B2.out B)
  clear B B2 I2
  go_wp2_with fail
  have K := Under_any w3 _ _ _ _ 1 F1.qs
  rw [fl_under, fl_e1] at K
  refine K.mono ?_
  clear K F1
  rintro e w4 ⟨a4, n4, cap4, rfl, U4, B⟩
  obtain rfl : n4 = 4 := U4.len
  have U4 := hid U4
  have I4 := hid (I3.out.later B)
  have B4 := hid (below_from B3.out B)
  clear B B3 I3
  go_wp2_with fail
  refine (field_any w4).mono ?_
  rintro e w5 ⟨rfl, F1, B⟩
  have I5 := hid (I4.out.later B)
  have U5 := hid (U4.out.later B)
  have B5 := hid (below_from B4.out B)
  clear B B4 I4 U4
  go_wp2_with fail
  have K := Line_any w5 _ _ _ _ 4 F1.qs
  rw [fl_line4, fl_e4] at K
  refine K.mono ?_
  clear K F1
  rintro e w6 ⟨a6, n6, cap6, rfl, _, B⟩
  have I6 := hid (I5.out.later B)
  have U6 := hid (U5.out.later B)
  have B6 := hid (below_from B5.out B)
  clear B B5 I5 U5
  go_wp2_with fail
  refine (field_any w6).mono ?_
  rintro e w7 ⟨rfl, F7, B⟩
  have c7 : w7.cell? ⟨w6.heap.size + 4, 4, none⟩ = some (.int .i64 0) := by rw [cell_of_row w7 _ _ _ _ _ F7.b4]; rfl
  have f7 : w7.frozen? ⟨w6.heap.size + 4, 4, none⟩ = false := frozen_of_row w7 _ _ _ _ F7.b4
  have F8 := hid (F7.parent 1)
  have BB := B.setCell (p := ⟨w6.heap.size + 4, 4, none⟩) (by simp) (.int .i64 1)
  have I8 := hid (I6.out.later BB)
  have U8 := hid (U6.out.later BB)
  have B8 := hid (below_from B6.out BB)
  obtain ⟨w8, hw8⟩ : ∃ w8, w7.setCell ⟨w6.heap.size + 4, 4, none⟩ (.int .i64 1) = w8 := ⟨_, rfl⟩
  rw [hw8] at F8 I8 U8 B8
  clear B BB F7 B6 I6 U6
  go_wp2_with fail
  clear hw8 c7 f7
  refine (field_any w8).mono ?_
  rintro e w9 ⟨rfl, F9, B⟩
  have d1 : w9.cell? ⟨w8.heap.size + 4, 8, none⟩ = some (.slice (some ⟨w8.heap.size + 2, 0, none⟩) 1 1) := by rw [cell_of_row w9 _ _ _ _ _ F9.b4]; rfl
  have c9 : w9.cell? ⟨w8.heap.size + 2, 1, none⟩ = some (.int .i64 6) := by rw [cell_of_row w9 _ _ _ _ _ F9.b2]; rfl
  have f9 : w9.frozen? ⟨w8.heap.size + 2, 1, none⟩ = false := frozen_of_row w9 _ _ _ _ F9.b2
  have G10 := hid (F9.cap 51)
  have BB := B.setCell (p := ⟨w8.heap.size + 2, 1, none⟩) (by simp) (.int .i64 51)
  have F10 := hid (F8.out.later BB)
  have I10 := hid (I8.out.later BB)
  have U10 := hid (U8.out.later BB)
  have B10 := hid (below_from B8.out BB)
  obtain ⟨w10, hw10⟩ : ∃ w10, w9.setCell ⟨w8.heap.size + 2, 1, none⟩ (.int .i64 51) = w10 := ⟨_, rfl⟩
  rw [hw10] at G10 F10 I10 U10 B10
  clear B BB F9 B8 I8 U8 F8
  go_wp2_with fail
  clear hw10 d1 c9 f9
  refine (field_any w10).mono ?_
  rintro e w11 ⟨rfl, F1, B⟩
  have G11 := hid (G10.out.later B)
  have F11 := hid (F10.out.later B)
  have I11 := hid (I10.out.later B)
  have U11 := hid (U10.out.later B)
  have B11 := hid (below_from B10.out B)
  clear B B10 I10 U10 F10 G10
  go_wp2_with fail
  have K := CheckT_any w11 _ _ _ _ F1.qs
  rw [fl_ok] at K
  refine K.mono ?_
  clear K F1
  rintro e w12 ⟨rfl, B⟩
  have G12 := hid (G11.out.later B)
  have F12 := hid (F11.out.later B)
  have I12 := hid (I11.out.later B)
  have U12 := hid (U11.out.later B)
  have B12 := hid (below_from B11.out B)
  clear B B11 I11 U11 F11 G11
  go_wp2_with fail
  have K := CheckT_any w12 _ _ _ _ F12.out.qs
  rw [fl_par] at K
  refine K.mono ?_
  clear K
  rintro e w13 ⟨rfl, B⟩
  have G13 := hid (G12.out.later B)
  have I13 := hid (I12.out.later B)
  have U13 := hid (U12.out.later B)
  have B13 := hid (below_from B12.out B)
  clear B B12 I12 U12 F12 G12
  go_wp2_with fail
  have K := CheckT_any w13 _ _ _ _ G13.out.qs
  rw [fl_cap] at K
  refine K.mono ?_
  clear K
  rintro e w14 ⟨rfl, B⟩
  have I14 := hid (I13.out.later B)
  have U14 := hid (U13.out.later B)
  have B14 := hid (below_from B13.out B)
  clear B B13 I13 U13 G13
  go_wp2_with fail
  have K := CheckT_any w14 none 0 0 [] (qsIn_nil _)
  rw [fl_nil] at K
  refine K.mono ?_
  clear K
  rintro e w15 ⟨rfl, B⟩
  have I15 := hid (I14.out.later B)
  have U15 := hid (U14.out.later B)
  have B15 := hid (below_from B14.out B)
  clear B B14 I14 U14
  go_wp2_with fail
  have K := Name_any ⟨#[98, 97, 114, 110]⟩ w15 (by decide)
  rw [fl_barn'] at K
  refine K.mono ?_
  clear K
  rintro e w16 ⟨rfl, rfl⟩
  go_wp2_with fail
  have K := Name_any ⟨#[98, 49]⟩ w16 (by decide)
  rw [fl_b1] at K
  refine K.mono ?_
  clear K
  rintro e w17 ⟨rfl, rfl⟩
  go_wp2_with fail
  refine (SameInts_same _ a2 (some ⟨w17.heap.size, 0, none⟩) 3 cap2 3 [3, 1, 0] (I15.out.later ((Below.refl w17.heap.size w17).alloc (Nat.le_refl _) _)) (ints_lit w17 [3, 1, 0] _ 3 rfl rfl (by decide))).mono ?_
  rintro e w18 ⟨rfl, B⟩
  have BB := below_from ((Below.refl w17.heap.size w17).alloc (Nat.le_refl _) _) (below_of_drawn B)
  have U18 := hid (U15.out.later BB)
  have B18 := hid (below_from B15.out BB)
  clear B BB B15 U15 I15
  go_wp2_with fail
  refine (SameBools_same _ a4 (some ⟨w18.heap.size, 0, none⟩) 4 cap4 4 [false, true, false, true] (U18.out.later ((Below.refl w18.heap.size w18).alloc (Nat.le_refl _) _)) (bools_lit w18 [false, true, false, true] _ 4 rfl rfl (by decide))).mono ?_
  rintro e w19 ⟨rfl, B⟩
  have B19 := hid (below_from B18.out (below_from ((Below.refl w18.heap.size w18).alloc (Nat.le_refl _) _) (below_of_drawn B)))
  clear B
  go_wp2
  go_ret
  exact ⟨rfl, B19.out⟩
end Go.Proofs.Ytphcphbmojioiaa
