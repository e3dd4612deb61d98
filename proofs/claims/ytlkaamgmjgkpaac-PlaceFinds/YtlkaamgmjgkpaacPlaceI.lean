/- Contract of the statements' own placeBegun: what must be in any case is so. -/
import Derived.Test.YtlkaamgmjgkpaacPlaceG
import Derived.Test.YtlkaamgmjgkpaacPlaceH
namespace Go.Proofs.Ytlkaamgmjgkpaac
open Go.RowKit

def lp : RunL := [(0, 8), (8, 2), (15, 8)]
theorem pb_ok (c : Nat) (k : Int) (h : k = 1 ∨ k = 2 ∨ k = 3 ∨ k = 4) : chkR false (plotR c 3 k) = 0 := by rcases h with rfl | rfl | rfl | rfl <;> rfl
theorem pb_lp : fine lp = true := by decide +kernel
theorem pb_z : fine [(0, 0)] = true := by decide +kernel
theorem pb_find (c : Nat) (k : Int) (f : RunL) : findA (plotR c 3 k) f = findA (plotR 0 3 k) f := rfl
theorem pb_1 : findA (plotR 0 3 1) lp = ([(0, 2), (1, 15)], true) := by decide +kernel
theorem pb_2 : findA (plotR 0 3 2) lp = ([(0, 2)], true) := by decide +kernel
theorem pb_3 : findA (plotR 0 3 3) lp = ([(0, 2), (1, 15)], true) := by decide +kernel
theorem pb_4 : findA (plotR 0 3 4) lp = ([(0, 15), (1, 19)], true) := by decide +kernel
theorem pb_5 : findA (plotR 0 3 2) [(0, 0)] = ([], false) := by decide +kernel
theorem pb_Find (w : World) (c : Nat) (k : Int) (hk : k = 1 ∨ k = 2 ∨ k = 3 ∨ k = 4) (h : RqIn w (plotR c 3 k)) (la : Option Addr) (ln lc : Nat) (f : RunL) (hf : RunsIn w la ln lc f) (hfi : fine f = true) (A : RunL × Bool) (hA : findA (plotR 0 3 k) f = A) :
    Calls Try.prog 16 #[.slice la ln lc, .agg #[.int .i64 3, .int .i64 2, .int .i64 30, .int .i64 k, .slice (some ⟨c, 0, none⟩) 2 2]] w fun e w' => GivesF w w' e A 0 := by
  have K := Find_any w (plotR c 3 k) h la ln lc f hf
  have he : placeErr f (plotR c 3 k) = 0 := by rw [placeErr, if_pos hfi]; exact pb_ok c k hk
  rw [if_pos he, he, pb_find, hA] at K
  exact K

set_option maxHeartbeats 4000000 in
theorem placeBegun_any (w : World) : Calls Try.prog 18 #[] w fun e w' => e = .returned (.bool true) ∧ Below w.heap.size w w' := by
  go_enter Try.func18, Try.ntmps18
  go_wp2_with fail
  obtain ⟨W0, hW0⟩ : ∃ W0, W0 = w.alloc (.cells #[.int .i64 0, .int .i64 8, .int .i64 8, .int .i64 2, .int .i64 15, .int .i64 8] 74) := ⟨_, rfl⟩
  rw [← hW0]
  have B0 : Hid (Below w.heap.size w W0) := by rw [hW0]; exact (Below.refl _ _).alloc (Nat.le_refl _) _
  have RF0 : Hid (RunsIn W0 (some ⟨w.heap.size, 0, none⟩) 3 3 lp) := by rw [hW0]; exact runs_lit w lp _ 3 rfl rfl (by decide)
  clear hW0
  refine (plot_any W0 1).mono ?_
  rintro e w1 ⟨rfl, hq, hb⟩
  obtain ⟨c1, hc⟩ : ∃ c, W0.heap.size + 1 = c := ⟨_, rfl⟩
  rw [hc] at hq ⊢
  clear hc
  have Q1 := hid hq
  have B1 := hid (below_from B0.out hb)
  have RF1 := hid (RF0.out.later hb)
  clear hb hq B0 RF0 
  go_wp2_with fail
  refine (pb_Find w1 c1 1 (by decide) Q1.out _ 3 3 lp RF1.out pb_lp ([(0, 2), (1, 15)], true) pb_1).mono ?_
  rintro e w2 ⟨a1, n1, cap1, rfl, hr, hb⟩
  obtain rfl : n1 = 2 := hr.len
  have B2 := hid (below_from B1.out hb)
  have RF2 := hid (RF1.out.later hb)
  have RA1_2 := hid hr
  clear hb hr B1 RF1 Q1 
  go_wp2_with fail
  refine (plot_any w2 3).mono ?_
  rintro e w3 ⟨rfl, hq, hb⟩
  obtain ⟨c3, hc⟩ : ∃ c, w2.heap.size + 1 = c := ⟨_, rfl⟩
  rw [hc] at hq ⊢
  clear hc
  have Q3 := hid hq
  have B3 := hid (below_from B2.out hb)
  have RF3 := hid (RF2.out.later hb)
  have RA1_3 := hid (RA1_2.out.later hb)
  clear hb hq B2 RF2 RA1_2
  go_wp2_with fail
  refine (pb_Find w3 c3 3 (by decide) Q3.out _ 3 3 lp RF3.out pb_lp ([(0, 2), (1, 15)], true) pb_3).mono ?_
  rintro e w4 ⟨a3, n3, cap3, rfl, hr, hb⟩
  obtain rfl : n3 = 2 := hr.len
  have B4 := hid (below_from B3.out hb)
  have RF4 := hid (RF3.out.later hb)
  have RA3_4 := hid hr
  have RA1_4 := hid (RA1_3.out.later hb)
  clear hb hr B3 RF3 Q3 RA1_3
  go_wp2_with fail
  refine (plot_any w4 4).mono ?_
  rintro e w5 ⟨rfl, hq, hb⟩
  obtain ⟨c5, hc⟩ : ∃ c, w4.heap.size + 1 = c := ⟨_, rfl⟩
  rw [hc] at hq ⊢
  clear hc
  have Q5 := hid hq
  have B5 := hid (below_from B4.out hb)
  have RF5 := hid (RF4.out.later hb)
  have RA1_5 := hid (RA1_4.out.later hb)
  have RA3_5 := hid (RA3_4.out.later hb)
  clear hb hq B4 RF4 RA1_4 RA3_4
  go_wp2_with fail
  refine (pb_Find w5 c5 4 (by decide) Q5.out _ 3 3 lp RF5.out pb_lp ([(0, 15), (1, 19)], true) pb_4).mono ?_
  rintro e w6 ⟨a4, n4, cap4, rfl, hr, hb⟩
  obtain rfl : n4 = 2 := hr.len
  have B6 := hid (below_from B5.out hb)
  have RF6 := hid (RF5.out.later hb)
  have RA4_6 := hid hr
  have RA1_6 := hid (RA1_5.out.later hb)
  have RA3_6 := hid (RA3_5.out.later hb)
  clear hb hr B5 RF5 Q5 RA1_5 RA3_5
  go_wp2_with fail
  refine (plot_any w6 2).mono ?_
  rintro e w7 ⟨rfl, hq, hb⟩
  obtain ⟨c7, hc⟩ : ∃ c, w6.heap.size + 1 = c := ⟨_, rfl⟩
  rw [hc] at hq ⊢
  clear hc
  have Q7 := hid hq
  have B7 := hid (below_from B6.out hb)
  have RF7 := hid (RF6.out.later hb)
  have RA1_7 := hid (RA1_6.out.later hb)
  have RA3_7 := hid (RA3_6.out.later hb)
  have RA4_7 := hid (RA4_6.out.later hb)
  clear hb hq B6 RF6 RA1_6 RA3_6 RA4_6
  go_wp2_with fail
  refine (pb_Find w7 c7 2 (by decide) Q7.out _ 3 3 lp RF7.out pb_lp ([(0, 2)], true) pb_2).mono ?_
  rintro e w8 ⟨a2, n2, cap2, rfl, hr, hb⟩
  obtain rfl : n2 = 1 := hr.len
  have B8 := hid (below_from B7.out hb)
  have RF8 := hid (RF7.out.later hb)
  have RA2_8 := hid hr
  have RA1_8 := hid (RA1_7.out.later hb)
  have RA3_8 := hid (RA3_7.out.later hb)
  have RA4_8 := hid (RA4_7.out.later hb)
  clear hb hr B7 RF7 Q7 RA1_7 RA3_7 RA4_7
  go_wp2_with fail
  obtain ⟨W5, hW5⟩ : ∃ W5, W5 = w8.alloc (.cells #[.int .i64 0, .int .i64 0] 74) := ⟨_, rfl⟩
  rw [← hW5]
  have hb : Below w8.heap.size w8 W5 := by rw [hW5]; exact (Below.refl _ _).alloc (Nat.le_refl _) _
  have RZ0 : Hid (RunsIn W5 (some ⟨w8.heap.size, 0, none⟩) 1 1 [(0, 0)]) := by rw [hW5]; exact runs_lit w8 [(0, 0)] _ 1 rfl rfl (by decide)
  have B20 := hid (below_from B8.out hb)
  have RA1_20 := hid (RA1_8.out.later hb)
  have RA3_20 := hid (RA3_8.out.later hb)
  have RA4_20 := hid (RA4_8.out.later hb)
  have RA2_20 := hid (RA2_8.out.later hb)
  clear hb hW5 B8 RF8 RA1_8 RA3_8 RA4_8 RA2_8
  refine (plot_any W5 2).mono ?_
  rintro e w21 ⟨rfl, hq, hb⟩
  obtain ⟨c21, hc⟩ : ∃ c, W5.heap.size + 1 = c := ⟨_, rfl⟩
  rw [hc] at hq ⊢
  clear hc
  have B21 := hid (below_from B20.out hb)
  have RZ1 := hid (RZ0.out.later hb)
  have Q21 := hid hq
  have RA1_21 := hid (RA1_20.out.later hb)
  have RA3_21 := hid (RA3_20.out.later hb)
  have RA4_21 := hid (RA4_20.out.later hb)
  have RA2_21 := hid (RA2_20.out.later hb)
  clear hb hq B20 RZ0 RA1_20 RA3_20 RA4_20 RA2_20
  go_wp2_with fail
  refine (pb_Find w21 c21 2 (by decide) Q21.out _ 1 1 [(0, 0)] RZ1.out pb_z ([], false) pb_5).mono ?_
  rintro e w22 ⟨a9, n9, cap9, rfl, hr, hb⟩
  have B22 := hid (below_from B21.out hb)
  have RA1_22 := hid (RA1_21.out.later hb)
  have RA3_22 := hid (RA3_21.out.later hb)
  have RA4_22 := hid (RA4_21.out.later hb)
  have RA2_22 := hid (RA2_21.out.later hb)
  clear hb hr B21 RZ1 Q21 RA1_21 RA3_21 RA4_21 RA2_21
  go_wp2_with fail
  refine (SameBites_same _ a1 (some ⟨w22.heap.size, 0, none⟩) 2 cap1 2 [(0, 2), (1, 15)] (RA1_22.out.later ((Below.refl w22.heap.size w22).alloc (Nat.le_refl _) _)) (pairs_lit w22 [(0, 2), (1, 15)] _ 50 2 rfl rfl (by decide))).mono ?_
  rintro e w23 ⟨rfl, hd⟩
  have hb := below_from ((Below.refl w22.heap.size w22).alloc (Nat.le_refl _) _) (below_of_drawn hd)
  have B23 := hid (below_from B22.out hb)
  have RA3_23 := hid (RA3_22.out.later hb)
  have RA4_23 := hid (RA4_22.out.later hb)
  have RA2_23 := hid (RA2_22.out.later hb)
  clear hb hd B22 RA1_22 RA3_22 RA4_22 RA2_22
  go_wp2_with fail
  refine (SameBites_same _ a3 (some ⟨w23.heap.size, 0, none⟩) 2 cap3 2 [(0, 2), (1, 15)] (RA3_23.out.later ((Below.refl w23.heap.size w23).alloc (Nat.le_refl _) _)) (pairs_lit w23 [(0, 2), (1, 15)] _ 50 2 rfl rfl (by decide))).mono ?_
  rintro e w24 ⟨rfl, hd⟩
  have hb := below_from ((Below.refl w23.heap.size w23).alloc (Nat.le_refl _) _) (below_of_drawn hd)
  have B24 := hid (below_from B23.out hb)
  have RA4_24 := hid (RA4_23.out.later hb)
  have RA2_24 := hid (RA2_23.out.later hb)
  clear hb hd B23 RA3_23 RA4_23 RA2_23
  go_wp2_with fail
  refine (SameBites_same _ a4 (some ⟨w24.heap.size, 0, none⟩) 2 cap4 2 [(0, 15), (1, 19)] (RA4_24.out.later ((Below.refl w24.heap.size w24).alloc (Nat.le_refl _) _)) (pairs_lit w24 [(0, 15), (1, 19)] _ 50 2 rfl rfl (by decide))).mono ?_
  rintro e w25 ⟨rfl, hd⟩
  have hb := below_from ((Below.refl w24.heap.size w24).alloc (Nat.le_refl _) _) (below_of_drawn hd)
  have B25 := hid (below_from B24.out hb)
  have RA2_25 := hid (RA2_24.out.later hb)
  clear hb hd B24 RA4_24 RA2_24
  go_wp2_with fail
  refine (SameBites_same _ a2 (some ⟨w25.heap.size, 0, none⟩) 1 cap2 1 [(0, 2)] (RA2_25.out.later ((Below.refl w25.heap.size w25).alloc (Nat.le_refl _) _)) (pairs_lit w25 [(0, 2)] _ 50 1 rfl rfl (by decide))).mono ?_
  rintro e w26 ⟨rfl, hd⟩
  have hb := below_from ((Below.refl w25.heap.size w25).alloc (Nat.le_refl _) _) (below_of_drawn hd)
  have B26 := hid (below_from B25.out hb)
  clear hb hd B25 RA2_25 
  go_wp2
  go_ret
  exact ⟨rfl, B26.out⟩
end Go.Proofs.Ytlkaamgmjgkpaac
