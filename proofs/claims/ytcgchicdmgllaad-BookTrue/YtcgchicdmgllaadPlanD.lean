/- Contract of planBegun. -/
import Derived.Test.YtcgchicdmgllaadPlanC
namespace Go.Proofs.Ytcgchicdmgllaad
open Go.RowKit

theorem fa_Check (w : World) (c d e : Nat) (top ck nx v : Int) (hv : planE ck nx (faL c top) (faB d e) = v) (hF : FarmIn w c d e top) :
    Calls Try.prog 7 #[.agg #[.int .i64 ck, .int .i64 nx, .slice (some ⟨c + 4, 0, none⟩) 4 4, .slice (some ⟨e + 3, 0, none⟩) 2 2]] w fun r w' => r = .returned (.int .i64 v) ∧ Below w.heap.size w w' := by
  have K := CheckS_any w ck nx _ _ _ _ _ _ _ _ hF.st
  rw [hv] at K
  exact K
theorem fa_Find (w : World) (c d e : Nat) (id i v : Int) (hi : findI 5 6 (faL c 10) (faB d e) id = i) (hv : findE 5 6 (faL c 10) (faB d e) id = v) (hF : FarmIn w c d e 10) :
    Calls Try.prog 13 #[.agg #[.int .i64 5, .int .i64 6, .slice (some ⟨c + 4, 0, none⟩) 4 4, .slice (some ⟨e + 3, 0, none⟩) 2 2], .int .i64 id] w fun r w' => r = .returned (.tuple #[.int .i64 i, .int .i64 v]) ∧ Below w.heap.size w w' := by
  have K := FindS_any w 5 6 _ _ _ _ _ _ _ _ hF.st id
  rw [hv, hi] at K
  exact K
/-- a box with a state in it -/
def StBox (w : World) (B : Nat) (a b c d : Value) : Prop := w.heap[B]? = some (.cells #[a, b, c, d] 25 (0, 0))
theorem StBox.later {w w' : World} {B : Nat} {a b c d : Value} (h : StBox w B a b c d) (hb : Below w.heap.size w w') : StBox w' B a b c d := (hb.block _ (Array.getElem?_eq_some_iff.1 h).1).trans h
theorem StBox.cells {w : World} {B : Nat} {a b c d : Value} (h : StBox w B a b c d) : w.cell? ⟨B, 0, none⟩ = some a ∧ w.cell? ⟨B, 1, none⟩ = some b ∧ w.cell? ⟨B, 2, none⟩ = some c ∧ w.cell? ⟨B, 3, none⟩ = some d := by
  unfold StBox at h
  refine ⟨?_, ?_, ?_, ?_⟩ <;> (rw [cell_of_row w B _ _ _ _ h]; rfl)
theorem StBox.new (w : World) (a b c d : Value) : StBox (w.alloc (.cells #[a, b, c, d] 25)) w.heap.size a b c d := heap_alloc_new w _

set_option maxRecDepth 100000 in
set_option maxHeartbeats 4000000 in
theorem planBegun_any (w : World) : Calls Try.prog 8 #[] w fun e w' => e = .returned (.bool true) ∧ Below w.heap.size w w' := by
  go_enter Try.func8, Try.ntmps8
  go_wp2_with fail
  refine (field_any w).mono ?_
  rintro e w1 ⟨rfl, hF, hb⟩
  have HF := hid hF
  have HB1 := hid hb
  clear hF hb
  go_wp2_with fail
  refine (Begin_ok w1 _ 4 4 _ HF.out.qs (fl_ok _)).mono ?_
  rintro e w2 ⟨g, k, l', rfl, hO, hl, hbare, hb⟩
  have HB2 := hid (below_from HB1.out hb)
  have HEq : Hid (planE 0 0 l' [] = 0) := (planE_same hbare rfl).trans (fa_begin _)
  obtain ⟨a0, c0, e0, hq0, _⟩ := hO.qs
  rw [← hl] at e0 hq0
  injection e0 with e1 e2 e3
  subst e1
  subst e3
  obtain ⟨W2, hW2⟩ : ∃ W2, W2 = w2.alloc (.cells #[.int .i64 0, .int .i64 0, .slice (some ⟨g, 0, none⟩) 4 k, .slice none 0 0] 25) := ⟨_, rfl⟩
  have hbW : Below w2.heap.size w2 W2 := by rw [hW2]; exact (Below.refl _ _).alloc (Nat.le_refl _) _
  obtain ⟨S, hS⟩ : ∃ S, w2.heap.size = S := ⟨_, rfl⟩
  have hbx : StBox W2 S (.int .i64 0) (.int .i64 0) (.slice (some ⟨g, 0, none⟩) 4 k) (.slice none 0 0) := by rw [hW2, ← hS]; exact StBox.new w2 _ _ _ _
  have HQ := hid (hq0.later hbW)
  have HBX := hid hbx
  have HBW := hid (below_from HB2.out hbW)
  have HW2 := hid hW2
  clear hO hl hbare hb hq0 hbW hW2 hbx HF
  go_wp2_with fail
  rw [← HW2.out]
  refine (farm_any W2).mono ?_
  rintro e w3 ⟨c1, d1, e1, rfl, hF, hb, _⟩
  have HB3 := hid (below_from HBW.out hb)
  have HX3 := hid (HBX.out.later hb)
  have HQ3 := hid (HQ.out.later hb)
  have HF3 := hid hF
  clear hF hb
  go_wp2_with fail
  refine (fa_Find w3 c1 d1 e1 4 1 0 (fa_i4 _ _ _) (fa_e4 _ _ _) HF3.out).mono ?_
  rintro e w4 ⟨rfl, hb⟩
  have HB4 := hid (below_from HB3.out hb)
  have HX4 := hid (HX3.out.later hb)
  have HQ4 := hid (HQ3.out.later hb)
  clear hb
  go_wp2_with fail
  refine (farm_any w4).mono ?_
  rintro e w5 ⟨c2, d2, e2, rfl, hF, hb, _⟩
  have HB5 := hid (below_from HB4.out hb)
  have HX5 := hid (HX4.out.later hb)
  have HQ5 := hid (HQ4.out.later hb)
  have HF5 := hid hF
  clear hF hb
  go_wp2_with fail
  refine (fa_Find w5 c2 d2 e2 2 0 6 (fa_i2 _ _ _) (fa_e2 _ _ _) HF5.out).mono ?_
  rintro e w6 ⟨rfl, hb⟩
  have HB6 := hid (below_from HB5.out hb)
  have HX6 := hid (HX5.out.later hb)
  have HQ6 := hid (HQ5.out.later hb)
  clear hb
  go_wp2_with fail
  refine (farm_any w6).mono ?_
  rintro e w7 ⟨c3, d3, e3, rfl, hF, hb, _⟩
  obtain ⟨W7, hW7⟩ : ∃ W7, W7 = w7.alloc (.cells #[.int .i64 15, .int .i64 6, .slice (some ⟨c3 + 4, 0, none⟩) 4 4, .slice (some ⟨e3 + 3, 0, none⟩) 2 2] 25) := ⟨_, rfl⟩
  obtain ⟨S7, hS7⟩ : ∃ S7, w7.heap.size = S7 := ⟨_, rfl⟩
  have hbW : Below w7.heap.size w7 W7 := by rw [hW7]; exact (Below.refl _ _).alloc (Nat.le_refl _) _
  have hbx : StBox W7 S7 (.int .i64 15) (.int .i64 6) (.slice (some ⟨c3 + 4, 0, none⟩) 4 4) (.slice (some ⟨e3 + 3, 0, none⟩) 2 2) := by rw [hW7, ← hS7]; exact StBox.new w7 _ _ _ _
  have HB7 := hid (below_from (below_from HB6.out hb) hbW)
  have HX7 := hid ((HX6.out.later hb).later hbW)
  have HQ7 := hid ((HQ6.out.later hb).later hbW)
  have HF7 := hid (hF.later hbW)
  have HY7 := hid hbx
  have HW7 := hid hW7
  clear hF hb hbW hbx hW7
  go_wp2_with fail
  rw [← HW7.out]
  refine (farm_any W7).mono ?_
  rintro e w8 ⟨c4, d4, e4, rfl, hF, hb, hc4⟩
  obtain ⟨V8, hV8⟩ : ∃ V8, V8 = w8.alloc (.cells #[.int .i64 5, .int .i64 6, .slice (some ⟨c4 + 4, 0, none⟩) 4 4, .slice (some ⟨e4 + 3, 0, none⟩) 2 2] 25) := ⟨_, rfl⟩
  obtain ⟨S8, hS8⟩ : ∃ S8, w8.heap.size = S8 := ⟨_, rfl⟩
  have hbV : Below w8.heap.size w8 V8 := by rw [hV8]; exact (Below.refl _ _).alloc (Nat.le_refl _) _
  have hbx : StBox V8 S8 (.int .i64 5) (.int .i64 6) (.slice (some ⟨c4 + 4, 0, none⟩) 4 4) (.slice (some ⟨e4 + 3, 0, none⟩) 2 2) := by rw [hV8, ← hS8]; exact StBox.new w8 _ _ _ _
  have hFV := hF.later hbV
  have r1 : (w8.alloc (.cells #[.int .i64 5, .int .i64 6, .slice (some ⟨c4 + 4, 0, none⟩) 4 4, .slice (some ⟨e4 + 3, 0, none⟩) 2 2] 25)).cell? ⟨c4 + 4, 2, none⟩ = some (.slice (some ⟨c4, 0, none⟩) 1 1) := by rw [← hV8, cell_of_row V8 (c4 + 4) 2 _ _ _ hFV.b4]; rfl
  have r2 : (w8.alloc (.cells #[.int .i64 5, .int .i64 6, .slice (some ⟨c4 + 4, 0, none⟩) 4 4, .slice (some ⟨e4 + 3, 0, none⟩) 2 2] 25)).cell? ⟨c4, 1, none⟩ = some (.int .i64 10) := by rw [← hV8, cell_of_row V8 c4 1 _ _ _ hFV.b0]; rfl
  have r3 : (w8.alloc (.cells #[.int .i64 5, .int .i64 6, .slice (some ⟨c4 + 4, 0, none⟩) 4 4, .slice (some ⟨e4 + 3, 0, none⟩) 2 2] 25)).frozen? ⟨c4, 1, none⟩ = false := by rw [← hV8]; exact frozen_of_row V8 c4 1 _ _ hFV.b0
  obtain ⟨U8, hU8⟩ : ∃ U8, U8 = w8.setCell ⟨c4, 1, none⟩ (.int .i64 9) := ⟨_, rfl⟩
  obtain ⟨W8, hW8⟩ : ∃ W8, W8 = U8.alloc (.cells #[.int .i64 5, .int .i64 6, .slice (some ⟨c4 + 4, 0, none⟩) 4 4, .slice (some ⟨e4 + 3, 0, none⟩) 2 2] 25) := ⟨_, rfl⟩
  have hlt8 : c4 < S8 := by have := (Array.getElem?_eq_some_iff.1 hF.b0).1; omega
  have hsU : U8.heap.size = S8 := by rw [hU8, ← hS8]; simp [World.setCell]
  have hbU : Below W7.heap.size W7 U8 := by rw [hU8]; exact hb.setCell (p := ⟨c4, 1, none⟩) hc4 _
  have hbU2 : Below U8.heap.size U8 W8 := by rw [hW8]; exact (Below.refl _ _).alloc (Nat.le_refl _) _
  have hb8 : Below W7.heap.size W7 W8 := below_from hbU hbU2
  have hF8 : FarmIn W8 c4 d4 e4 9 := (show FarmIn U8 c4 d4 e4 9 from by rw [hU8]; exact hF.lower 9).later hbU2
  have hbx8 : StBox W8 S8 (.int .i64 5) (.int .i64 6) (.slice (some ⟨c4 + 4, 0, none⟩) 4 4) (.slice (some ⟨e4 + 3, 0, none⟩) 2 2) := by
    rw [hW8, ← hsU]
    exact StBox.new U8 _ _ _ _
  have HB8 := hid (below_from HB7.out hb8)
  have HX8 := hid (HX7.out.later hb8)
  have HQ8 := hid (HQ7.out.later hb8)
  have HF78 := hid (HF7.out.later hb8)
  have HY78 := hid (HY7.out.later hb8)
  have HF8 := hid hF8
  have HY8 := hid hbx8
  have HW8 : Hid (W8 = (w8.setCell ⟨c4, 1, none⟩ (.int .i64 9)).alloc (.cells #[.int .i64 5, .int .i64 6, .slice (some ⟨c4 + 4, 0, none⟩) 4 4, .slice (some ⟨e4 + 3, 0, none⟩) 2 2] 25)) := by rw [hU8] at hW8; exact hW8
  clear hF hb hbV hbx hFV hW8 hb8 hF8 hbx8 hV8 hc4 hU8 hsU hbU hbU2
  go_wp2_with fail
  rw [← HW8.out]
  refine (farm_any W8).mono ?_
  rintro e w9 ⟨c5, d5, e5, rfl, hF, hb, _⟩
  obtain ⟨W9, hW9⟩ : ∃ W9, W9 = w9.alloc (.cells #[.int .i64 5, .int .i64 4, .slice (some ⟨c5 + 4, 0, none⟩) 4 4, .slice (some ⟨e5 + 3, 0, none⟩) 2 2] 25) := ⟨_, rfl⟩
  obtain ⟨S9, hS9⟩ : ∃ S9, w9.heap.size = S9 := ⟨_, rfl⟩
  have hbW : Below w9.heap.size w9 W9 := by rw [hW9]; exact (Below.refl _ _).alloc (Nat.le_refl _) _
  have hbx : StBox W9 S9 (.int .i64 5) (.int .i64 4) (.slice (some ⟨c5 + 4, 0, none⟩) 4 4) (.slice (some ⟨e5 + 3, 0, none⟩) 2 2) := by rw [hW9, ← hS9]; exact StBox.new w9 _ _ _ _
  have hb9 := below_from hb hbW
  have HB9 := hid (below_from HB8.out hb9)
  have HX9 := hid (HX8.out.later hb9)
  have HQ9 := hid (HQ8.out.later hb9)
  have HF79 := hid (HF78.out.later hb9)
  have HY79 := hid (HY78.out.later hb9)
  have HF89 := hid (HF8.out.later hb9)
  have HY89 := hid (HY8.out.later hb9)
  have HF9 := hid (hF.later hbW)
  have HY9 := hid hbx
  have HW9 := hid hW9
  clear hF hb hbW hbx hW9 hb9 r1 r2 r3
  go_wp2_with fail
  rw [← HW9.out]
  refine (farm_any W9).mono ?_
  rintro e w10 ⟨c6, d6, e6, rfl, hF, hb, _⟩
  have HF10 := hid hF
  have HBA := hid hb
  clear hF hb
  go_wp2_with fail
  refine (fa_Check w10 c6 d6 e6 10 5 6 0 (fa_ok _ _ _) HF10.out).mono ?_
  rintro e w11 ⟨rfl, hb⟩
  have H1 := hid (below_from HBA.out hb)
  clear hb HBA
  obtain ⟨x0, x1, x2, x3⟩ := (HX9.out.later H1.out).cells
  go_wp2_with fail
  have KB := CheckS_any w11 0 0 _ _ _ _ none 0 0 [] ⟨HQ9.out.later H1.out, bksIn_nil (by omega)⟩
  rw [HEq.out] at KB
  refine KB.mono ?_
  clear KB
  rintro e w12 ⟨rfl, hb⟩
  have H2 := hid (below_from H1.out hb)
  clear hb x0 x1 x2 x3
  obtain ⟨x0, x1, x2, x3⟩ := (HY79.out.later H2.out).cells
  go_wp2_with fail
  refine (fa_Check w12 c3 d3 e3 10 15 6 9 (fa_late _ _ _) (HF79.out.later H2.out)).mono ?_
  rintro e w13 ⟨rfl, hb⟩
  have H3 := hid (below_from H2.out hb)
  clear hb x0 x1 x2 x3
  obtain ⟨x0, x1, x2, x3⟩ := (HY89.out.later H3.out).cells
  go_wp2_with fail
  refine (fa_Check w13 c4 d4 e4 9 5 6 10 (fa_sum _ _ _) (HF89.out.later H3.out)).mono ?_
  rintro e w14 ⟨rfl, hb⟩
  have H4 := hid (below_from H3.out hb)
  clear hb x0 x1 x2 x3
  obtain ⟨x0, x1, x2, x3⟩ := (HY9.out.later H4.out).cells
  go_wp2_with fail
  refine (fa_Check w14 c5 d5 e5 10 5 4 1 (fa_form _ _ _) (HF9.out.later H4.out)).mono ?_
  rintro e w15 ⟨rfl, hb⟩
  have H5 := hid (below_from H4.out hb)
  clear hb x0 x1 x2 x3
  go_wp2
  go_ret
  exact ⟨rfl, below_from HB9.out H5.out⟩
end Go.Proofs.Ytcgchicdmgllaad
