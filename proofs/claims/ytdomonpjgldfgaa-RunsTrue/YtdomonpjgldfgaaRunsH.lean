/- Contract of the statements' own runsBegun: what must be in any case is so. -/
import Derived.Test.YtdomonpjgldfgaaRunsG
namespace Go.Proofs.Ytdomonpjgldfgaa
open Go.RowKit

def lf : RunL := [(0, 5), (10, 8)]
def lg : RunL := [(0, 1), (10, -2), (20, 0)]
theorem begun1 : valueR lf 10 = (8, 0) := by decide +kernel
theorem begun2 : joinR (fun x y => x + y) lf lg = ([(0, 6), (20, 8)], 0) := by decide +kernel
theorem begun3 : joinR (fun x y => min x y) lf lg = (lg, 0) := by decide +kernel
theorem begun4 : bumpR lf 5 12 2 = ([(0, 5), (5, 7), (10, 10), (12, 8)], 0) := by decide +kernel
theorem begun5 : leastR [(0, 5), (5, 7), (10, 10), (12, 8)] 5 11 = (7, 0) := by decide +kernel
theorem begun6 : bumpR lf 5 5 1 = ([], 3) := by decide +kernel
theorem begun7 : chk lf = 0 := by decide +kernel
theorem begun8 : chk [] = 1 := by decide +kernel
theorem begun9 : chk [(0, 0), (1, 0)] = 1 := by decide +kernel

set_option maxHeartbeats 2000000 in
theorem runsBegun_any (w : World) : Calls Try.prog 13 #[] w fun e w' => e = .returned (.bool true) ∧ Below w.heap.size w w' := by
  go_enter Try.func13, Try.ntmps13
  go_wp2_with fail
  obtain ⟨W0, hW0⟩ : ∃ W0, W0 = (w.alloc (.cells #[.int .i64 0, .int .i64 5, .int .i64 10, .int .i64 8] 56)).alloc (.cells #[.int .i64 0, .int .i64 1, .int .i64 10, .int .i64 (-2), .int .i64 20, .int .i64 0] 56) := ⟨_, rfl⟩
  rw [← hW0]
  have B0 : Hid (Below w.heap.size w W0) := by rw [hW0]; exact ((Below.refl _ _).alloc (Nat.le_refl _) _).alloc (by simp) _
  have RF : Hid (RunsIn W0 (some ⟨w.heap.size, 0, none⟩) 2 2 lf) := by rw [hW0]; exact (runs_lit w lf _ 2 rfl rfl (by decide)).later ((Below.refl _ _).alloc (Nat.le_refl _) _)
  have RG : Hid (RunsIn W0 (some ⟨w.heap.size + 1, 0, none⟩) 3 3 lg) := by
    rw [hW0]
    have := runs_lit (w.alloc (.cells #[.int .i64 0, .int .i64 5, .int .i64 10, .int .i64 8] 56)) lg #[.int .i64 0, .int .i64 1, .int .i64 10, .int .i64 (-2), .int .i64 20, .int .i64 0] 3 rfl rfl (by decide)
    rwa [World.size_alloc] at this
  clear hW0
  have K1 := Value_any W0 _ _ _ lf 10 RF.out
  rw [begun1] at K1
  refine K1.mono ?_
  clear K1
  rintro e w1 ⟨rfl, hb⟩
  have B1 := hid (below_from B0.out hb)
  have RF1 := hid (RF.out.later hb)
  have RG1 := hid (RG.out.later hb)
  clear hb B0 RF RG
  go_wp2_with fail
  have K2 := Plus_any w1 _ _ _ _ _ _ lf lg RF1.out RG1.out
  rw [begun2] at K2
  refine K2.mono ?_
  clear K2
  rintro e w2 ⟨a2, n2, cap2, rfl, hr2, hb⟩
  obtain rfl : n2 = 2 := hr2.len
  have B2 := hid (below_from B1.out hb)
  have RF2 := hid (RF1.out.later hb)
  have RG2 := hid (RG1.out.later hb)
  have RA2 := hid hr2
  clear hb B1 RF1 RG1 hr2
  go_wp2_with fail
  have K3 := Lesser_any w2 _ _ _ _ _ _ lf lg RF2.out RG2.out
  rw [begun3] at K3
  refine K3.mono ?_
  clear K3
  rintro e w3 ⟨a3, n3, cap3, rfl, hr3, hb⟩
  obtain rfl : n3 = 3 := hr3.len
  have B3 := hid (below_from B2.out hb)
  have RF3 := hid (RF2.out.later hb)
  have RG3 := hid (RG2.out.later hb)
  have RA3 := hid (RA2.out.later hb)
  have RB3 := hid hr3
  clear hb B2 RF2 RG2 RA2 hr3
  go_wp2_with fail
  have K4 := Bump_any w3 _ _ _ lf 5 12 2 RF3.out
  rw [begun4] at K4
  refine K4.mono ?_
  clear K4
  rintro e w4 ⟨a4, n4, cap4, rfl, hr4, hb⟩
  obtain rfl : n4 = 4 := hr4.len
  have B4 := hid (below_from B3.out hb)
  have RF4 := hid (RF3.out.later hb)
  have RG4 := hid (RG3.out.later hb)
  have RA4 := hid (RA3.out.later hb)
  have RB4 := hid (RB3.out.later hb)
  have RC4 := hid hr4
  clear hb B3 RF3 RG3 RA3 RB3 hr4
  go_wp2_with fail
  have K5 := Least_any w4 _ _ _ [(0, 5), (5, 7), (10, 10), (12, 8)] 5 11 RC4.out
  rw [begun5] at K5
  refine K5.mono ?_
  clear K5
  rintro e w5 ⟨rfl, hb⟩
  have B5 := hid (below_from B4.out hb)
  have RF5 := hid (RF4.out.later hb)
  have RG5 := hid (RG4.out.later hb)
  have RA5 := hid (RA4.out.later hb)
  have RB5 := hid (RB4.out.later hb)
  have RC5 := hid (RC4.out.later hb)
  clear hb B4 RF4 RG4 RA4 RB4 RC4
  go_wp2_with fail
  have K6 := Bump_any w5 _ _ _ lf 5 5 1 RF5.out
  rw [begun6] at K6
  refine K6.mono ?_
  clear K6
  rintro e w6 ⟨a6, n6, cap6, rfl, hr6, hb⟩
  have B6 := hid (below_from B5.out hb)
  have RF6 := hid (RF5.out.later hb)
  have RG6 := hid (RG5.out.later hb)
  have RA6 := hid (RA5.out.later hb)
  have RB6 := hid (RB5.out.later hb)
  have RC6 := hid (RC5.out.later hb)
  clear hb B5 RF5 RG5 RA5 RB5 RC5 hr6
  go_wp2_with fail
  have K7 := Check_any w6 _ _ _ lf RF6.out
  rw [begun7] at K7
  refine K7.mono ?_
  clear K7
  rintro e w7 ⟨rfl, hb⟩
  have B7 := hid (below_from B6.out hb)
  have RG7 := hid (RG6.out.later hb)
  have RA7 := hid (RA6.out.later hb)
  have RB7 := hid (RB6.out.later hb)
  have RC7 := hid (RC6.out.later hb)
  clear hb B6 RF6 RG6 RA6 RB6 RC6
  go_wp2_with fail
  have K8 := Check_any w7 none 0 0 [] (runsIn_nil _)
  rw [begun8] at K8
  refine K8.mono ?_
  clear K8
  rintro e w8 ⟨rfl, hb⟩
  have B8 := hid (below_from B7.out hb)
  have RG8 := hid (RG7.out.later hb)
  have RA8 := hid (RA7.out.later hb)
  have RB8 := hid (RB7.out.later hb)
  have RC8 := hid (RC7.out.later hb)
  clear hb B7 RG7 RA7 RB7 RC7
  go_wp2_with fail
  have K9 := Check_any (w8.alloc (.cells #[.int .i64 0, .int .i64 0, .int .i64 1, .int .i64 0] 56)) _ 2 2 [(0, 0), (1, 0)] (runs_lit w8 [(0, 0), (1, 0)] _ 2 rfl rfl (by decide))
  rw [begun9] at K9
  refine K9.mono ?_
  clear K9
  rintro e w9 ⟨rfl, hb⟩
  have hb' := below_from ((Below.refl w8.heap.size w8).alloc (Nat.le_refl _) _) hb
  have B9 := hid (below_from B8.out hb')
  have RG9 := hid (RG8.out.later hb')
  have RA9 := hid (RA8.out.later hb')
  have RB9 := hid (RB8.out.later hb')
  have RC9 := hid (RC8.out.later hb')
  clear hb hb' B8 RG8 RA8 RB8 RC8
  go_wp2_with fail
  refine (SameRuns_same _ a2 (some ⟨w9.heap.size, 0, none⟩) 2 cap2 2 [(0, 6), (20, 8)] (RA9.out.later ((Below.refl w9.heap.size w9).alloc (Nat.le_refl _) _)) (runs_lit w9 [(0, 6), (20, 8)] _ 2 rfl rfl (by decide))).mono ?_
  rintro e w10 ⟨rfl, hb⟩
  have hb' := below_from ((Below.refl w9.heap.size w9).alloc (Nat.le_refl _) _) (below_of_drawn hb)
  have B10 := hid (below_from B9.out hb')
  have RG10 := hid (RG9.out.later hb')
  have RB10 := hid (RB9.out.later hb')
  have RC10 := hid (RC9.out.later hb')
  clear hb hb' B9 RG9 RA9 RB9 RC9
  go_wp2_with fail
  refine (SameRuns_same _ a3 _ 3 cap3 3 lg RB10.out RG10.out).mono ?_
  rintro e w11 ⟨rfl, hb⟩
  have hb' := below_of_drawn hb
  have B11 := hid (below_from B10.out hb')
  have RC11 := hid (RC10.out.later hb')
  clear hb hb' B10 RG10 RB10 RC10
  go_wp2_with fail
  refine (SameRuns_same _ a4 (some ⟨w11.heap.size, 0, none⟩) 4 cap4 4 [(0, 5), (5, 7), (10, 10), (12, 8)] (RC11.out.later ((Below.refl w11.heap.size w11).alloc (Nat.le_refl _) _)) (runs_lit w11 [(0, 5), (5, 7), (10, 10), (12, 8)] _ 4 rfl rfl (by decide))).mono ?_
  rintro e w12 ⟨rfl, hb⟩
  have hb' := below_from ((Below.refl w11.heap.size w11).alloc (Nat.le_refl _) _) (below_of_drawn hb)
  have B12 := hid (below_from B11.out hb')
  clear hb hb' B11 RC11
  go_wp2
  go_ret
  exact ⟨rfl, B12.out⟩
end Go.Proofs.Ytdomonpjgldfgaa
