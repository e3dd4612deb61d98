/- The statements' own askBegun: what must be in any case is so. -/
import Derived.Test.YtcgchicdmgllaafAskA
namespace Go.Proofs.Ytcgchicdmgllaaf
open Go.RowKit

theorem fk_B1 (c d e : Nat) : busyR 5 6 (faL c 10) (faB d e) 0 13 = (10, 0) := by kernel_rfl
theorem fa_B1 (w : World) (c d e : Nat) (hF : FarmIn w c d e 10) :
    Calls Try.prog 4 #[.agg #[.int .i64 5, .int .i64 6, .slice (some ⟨c + 4, 0, none⟩) 4 4, .slice (some ⟨e + 3, 0, none⟩) 2 2], .int .i64 0, .int .i64 13] w fun r w' => r = .returned (.tuple #[.int .i64 10, .int .i64 0]) ∧ Below w.heap.size w w' := by
  have K := Busy_any w 5 6 _ _ _ _ _ _ _ _ hF.st 0 13
  rw [fk_B1] at K
  exact K
theorem fk_L1 (c d e : Nat) : leftR 5 6 (faL c 10) (faB d e) 3 13 = (0, 0) := by kernel_rfl
theorem fa_L1 (w : World) (c d e : Nat) (hF : FarmIn w c d e 10) :
    Calls Try.prog 5 #[.agg #[.int .i64 5, .int .i64 6, .slice (some ⟨c + 4, 0, none⟩) 4 4, .slice (some ⟨e + 3, 0, none⟩) 2 2], .int .i64 3, .int .i64 13] w fun r w' => r = .returned (.tuple #[.int .i64 0, .int .i64 0]) ∧ Below w.heap.size w w' := by
  have K := Left_any w 5 6 _ _ _ _ _ _ _ _ hF.st 3 13
  rw [fk_L1] at K
  exact K
theorem fk_B2 (c d e : Nat) : busyR 5 6 (faL c 10) (faB d e) 4 13 = (0, 6) := by kernel_rfl
theorem fa_B2 (w : World) (c d e : Nat) (hF : FarmIn w c d e 10) :
    Calls Try.prog 4 #[.agg #[.int .i64 5, .int .i64 6, .slice (some ⟨c + 4, 0, none⟩) 4 4, .slice (some ⟨e + 3, 0, none⟩) 2 2], .int .i64 4, .int .i64 13] w fun r w' => r = .returned (.tuple #[.int .i64 0, .int .i64 6]) ∧ Below w.heap.size w w' := by
  have K := Busy_any w 5 6 _ _ _ _ _ _ _ _ hF.st 4 13
  rw [fk_B2] at K
  exact K
theorem fk_L2 (c d e : Nat) : leftR 5 6 (faL c 10) (faB d e) 0 48 = (0, 3) := by kernel_rfl
theorem fa_L2 (w : World) (c d e : Nat) (hF : FarmIn w c d e 10) :
    Calls Try.prog 5 #[.agg #[.int .i64 5, .int .i64 6, .slice (some ⟨c + 4, 0, none⟩) 4 4, .slice (some ⟨e + 3, 0, none⟩) 2 2], .int .i64 0, .int .i64 48] w fun r w' => r = .returned (.tuple #[.int .i64 0, .int .i64 3]) ∧ Below w.heap.size w w' := by
  have K := Left_any w 5 6 _ _ _ _ _ _ _ _ hF.st 0 48
  rw [fk_L2] at K
  exact K
theorem fk_s1 (c d e P : Nat) : seekE 5 6 (faL c 10) (faB d e) (⟨1, 5, 40, 4, some ⟨P, 0, none⟩, 2, 2, [(2, 2), (2, 8)]⟩ : Rq) = 0 := by kernel_rfl
theorem fk_p1 (c d e P : Nat) : placeR (faL c 10) (faB d e) (⟨1, 5, 40, 4, some ⟨P, 0, none⟩, 2, 2, [(2, 2), (2, 8)]⟩ : Rq) = ([(0, 16), (1, 18)], true) := by kernel_rfl
theorem fk_s3 (c d e P : Nat) : seekE 5 6 (faL c 10) (faB d e) (⟨1, 20, 40, 2, some ⟨P, 0, none⟩, 1, 1, [(2, 5)]⟩ : Rq) = 0 := by kernel_rfl
theorem fk_p3 (c d e P : Nat) : (placeR (faL c 10) (faB d e) (⟨1, 20, 40, 2, some ⟨P, 0, none⟩, 1, 1, [(2, 5)]⟩ : Rq)).2 = false := by kernel_rfl
theorem fa_So1 (w : World) (c d e P : Nat) (hF : FarmIn w c d e 10) (hr : RunsIn w (some ⟨P, 0, none⟩) 2 2 [(2, 2), (2, 8)]) :
    Calls Try.prog 7 #[.agg #[.int .i64 5, .int .i64 6, .slice (some ⟨c + 4, 0, none⟩) 4 4, .slice (some ⟨e + 3, 0, none⟩) 2 2], .agg #[.int .i64 1, .int .i64 5, .int .i64 40, .int .i64 4, .slice (some ⟨P, 0, none⟩) 2 2]] w fun r w' => r = .returned (.tuple #[.int .i64 16, .bool true, .int .i64 0]) ∧ Below w.heap.size w w' := by
  have K := Soonest_ok w 5 6 _ _ _ _ _ _ _ _ hF.st (⟨1, 5, 40, 4, some ⟨P, 0, none⟩, 2, 2, [(2, 2), (2, 8)]⟩ : Rq) hr (fk_s1 c d e P)
  rw [fk_p1] at K
  exact K
theorem fa_So3 (w : World) (c d e P : Nat) (hF : FarmIn w c d e 10) (hr : RunsIn w (some ⟨P, 0, none⟩) 1 1 [(2, 5)]) :
    Calls Try.prog 7 #[.agg #[.int .i64 5, .int .i64 6, .slice (some ⟨c + 4, 0, none⟩) 4 4, .slice (some ⟨e + 3, 0, none⟩) 2 2], .agg #[.int .i64 1, .int .i64 20, .int .i64 40, .int .i64 2, .slice (some ⟨P, 0, none⟩) 1 1]] w fun r w' => r = .returned (.tuple #[.int .i64 0, .bool false, .int .i64 0]) ∧ Below w.heap.size w w' := by
  have K := Soonest_ok w 5 6 _ _ _ _ _ _ _ _ hF.st (⟨1, 20, 40, 2, some ⟨P, 0, none⟩, 1, 1, [(2, 5)]⟩ : Rq) hr (fk_s3 c d e P)
  rw [if_neg (by rw [fk_p3]; decide), fk_p3] at K
  exact K

set_option maxRecDepth 100000 in
set_option maxHeartbeats 4000000 in
theorem askBegun_any (w : World) : Calls Try.prog 9 #[] w fun e w' => e = .returned (.bool true) ∧ Below w.heap.size w w' := by
  go_enter Try.func9, Try.ntmps9
  go_wp2_with fail
  refine (farm_any w).mono ?_
  rintro e w1 ⟨c1, d1, e1, rfl, hF, hb, _⟩
  have HB1 := hid hb
  have HF1 := hid hF
  clear hF hb
  go_wp2_with fail
  refine (fa_B1 w1 c1 d1 e1 HF1.out).mono ?_
  rintro e w2 ⟨rfl, hb⟩
  have HB2 := hid (below_from HB1.out hb)
  clear hb HF1
  go_wp2_with fail
  refine (farm_any w2).mono ?_
  rintro e w3 ⟨c3, d3, e3, rfl, hF, hb, _⟩
  have HB3 := hid (below_from HB2.out hb)
  have HF3 := hid hF
  clear hF hb
  go_wp2_with fail
  refine (fa_L1 w3 c3 d3 e3 HF3.out).mono ?_
  rintro e w4 ⟨rfl, hb⟩
  have HB4 := hid (below_from HB3.out hb)
  clear hb HF3
  go_wp2_with fail
  refine (farm_any w4).mono ?_
  rintro e w5 ⟨c5, d5, e5, rfl, hF, hb, _⟩
  have HB5 := hid (below_from HB4.out hb)
  obtain ⟨V5, hV⟩ : ∃ V, V = w5.alloc (.cells #[.int .i64 2, .int .i64 2, .int .i64 2, .int .i64 8] 64) := ⟨_, rfl⟩
  have hbV : Below w5.heap.size w5 V5 := by rw [hV]; exact (Below.refl _ _).alloc (Nat.le_refl _) _
  obtain ⟨P5, hP⟩ : ∃ P, w5.heap.size = P := ⟨_, rfl⟩
  have hL : RunsIn V5 (some ⟨P5, 0, none⟩) 2 2 [(2, 2), (2, 8)] := by rw [hV, ← hP]; exact runs_block (heap_alloc_new w5 _) _ 2 rfl rfl (Nat.le_of_ble_eq_true (by kernel_rfl))
  have HL5 := hid hL
  have HF5 := hid (hF.later hbV)
  have HV5 := hid hV
  have HBV5 := hid (below_from HB5.out hbV)
  clear hF hb hV hbV hL
  go_wp2_with fail
  rw [← HV5.out]
  refine (fa_So1 V5 c5 d5 e5 P5 HF5.out HL5.out).mono ?_
  rintro e w6 ⟨rfl, hb⟩
  have HB6 := hid (below_from HBV5.out hb)
  clear hb HF5 HL5
  go_wp2_with fail
  refine (farm_any w6).mono ?_
  rintro e w7 ⟨c7, d7, e7, rfl, hF, hb, _⟩
  have HB7 := hid (below_from HB6.out hb)
  obtain ⟨V7, hV⟩ : ∃ V, V = w7.alloc (.cells #[.int .i64 2, .int .i64 5] 64) := ⟨_, rfl⟩
  have hbV : Below w7.heap.size w7 V7 := by rw [hV]; exact (Below.refl _ _).alloc (Nat.le_refl _) _
  obtain ⟨P7, hP⟩ : ∃ P, w7.heap.size = P := ⟨_, rfl⟩
  have hL : RunsIn V7 (some ⟨P7, 0, none⟩) 1 1 [(2, 5)] := by rw [hV, ← hP]; exact runs_block (heap_alloc_new w7 _) _ 1 rfl rfl (Nat.le_of_ble_eq_true (by kernel_rfl))
  have HL7 := hid hL
  have HF7 := hid (hF.later hbV)
  have HV7 := hid hV
  have HBV7 := hid (below_from HB7.out hbV)
  clear hF hb hV hbV hL
  go_wp2_with fail
  rw [← HV7.out]
  refine (fa_So3 V7 c7 d7 e7 P7 HF7.out HL7.out).mono ?_
  rintro e w8 ⟨rfl, hb⟩
  have HB8 := hid (below_from HBV7.out hb)
  clear hb HF7 HL7
  go_wp2_with fail
  refine (farm_any w8).mono ?_
  rintro e w9 ⟨c9, d9, e9, rfl, hF, hb, _⟩
  have HB9 := hid (below_from HB8.out hb)
  have HF9 := hid hF
  clear hF hb
  go_wp2_with fail
  refine (fa_B2 w9 c9 d9 e9 HF9.out).mono ?_
  rintro e w10 ⟨rfl, hb⟩
  have HB10 := hid (below_from HB9.out hb)
  clear hb HF9
  go_wp2_with fail
  refine (farm_any w10).mono ?_
  rintro e w11 ⟨c11, d11, e11, rfl, hF, hb, _⟩
  have HB11 := hid (below_from HB10.out hb)
  have HF11 := hid hF
  clear hF hb
  go_wp2_with fail
  refine (fa_L2 w11 c11 d11 e11 HF11.out).mono ?_
  rintro e w12 ⟨rfl, hb⟩
  have HB12 := hid (below_from HB11.out hb)
  clear hb HF11
  go_wp2
  go_ret
  exact ⟨rfl, HB12.out⟩
end Go.Proofs.Ytcgchicdmgllaaf
