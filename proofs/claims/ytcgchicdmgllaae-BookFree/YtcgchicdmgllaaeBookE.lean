/- The statements' own bookBegun: what must be in any case is so. -/
import Derived.Test.YtcgchicdmgllaaeDelD
namespace Go.Proofs.Ytcgchicdmgllaae
open Go.RowKit

theorem fa_s1 (c d e P : Nat) : subE 5 6 (faL c 10) (faB d e) (⟨1, 5, 40, 4, some ⟨P, 0, none⟩, 2, 2, [(2, 2), (2, 8)]⟩ : Rq) = 0 := by kernel_rfl
theorem fa_p1 (c d e P : Nat) : (placeR (faL c 10) (faB d e) (⟨1, 5, 40, 4, some ⟨P, 0, none⟩, 2, 2, [(2, 2), (2, 8)]⟩ : Rq)).1 = [(0, 16), (1, 18)] := by kernel_rfl
theorem fa_s2 (c d e P : Nat) : seekE 5 6 (faL c 10) (faB d e) (⟨1, 4, 40, 2, some ⟨P, 0, none⟩, 1, 1, [(2, 5)]⟩ : Rq) = 9 := by kernel_rfl
theorem fa_s3 (c d e P : Nat) : seekE 5 6 (faL c 10) (faB d e) (⟨1, 20, 40, 2, some ⟨P, 0, none⟩, 1, 1, [(2, 5)]⟩ : Rq) = 0 := by kernel_rfl
theorem fa_p3 (c d e P : Nat) : (placeR (faL c 10) (faB d e) (⟨1, 20, 40, 2, some ⟨P, 0, none⟩, 1, 1, [(2, 5)]⟩ : Rq)).2 = false := by kernel_rfl
theorem fa_c1 (d e : Nat) : bookAt (faB d e) 1 = some 0 := by kernel_rfl
theorem fa_t15 (c d e : Nat) : tickE 5 6 (faL c 10) (faB d e) 15 = 0 := by kernel_rfl
theorem fa_l15 (d e : Nat) : (stays (faB d e) 15).length = 1 := by kernel_rfl
theorem fa_t4 (c d e : Nat) : tickE 5 6 (faL c 10) (faB d e) 4 = 9 := by kernel_rfl

theorem fa_end (d e : Nat) (X : Bk) : (bk (bareB (faB d e ++ [X])) 2).bs = X.bs := rfl
theorem fa_Sub1 (w : World) (c d e P : Nat) (hF : FarmIn w c d e 10) (hr : RunsIn w (some ⟨P, 0, none⟩) 2 2 [(2, 2), (2, 8)]) :
    Calls Try.prog 8 #[.agg #[.int .i64 5, .int .i64 6, .slice (some ⟨c + 4, 0, none⟩) 4 4, .slice (some ⟨e + 3, 0, none⟩) 2 2], .agg #[.int .i64 1, .int .i64 5, .int .i64 40, .int .i64 4, .slice (some ⟨P, 0, none⟩) 2 2]] w fun r w' => ∃ g k1 g9 k9 ba bc, r = .returned (.tuple #[.agg #[.int .i64 5, .int .i64 7, .slice (some ⟨g, 0, none⟩) 4 k1, .slice (some ⟨g9, 0, none⟩) 3 k9], .int .i64 6, .int .i64 0]) ∧ 3 ≤ k9 ∧ k9 ≤ 9223372036854775807 ∧ w'.cell? ⟨g9, 20, none⟩ = some (.slice ba 2 bc) ∧ RunsIn w' ba 2 bc [(0, 16), (1, 18)] ∧ Below w.heap.size w w' := by
  have K := Submit_ok w 5 6 _ _ _ _ _ _ _ _ hF.st (⟨1, 5, 40, 4, some ⟨P, 0, none⟩, 2, 2, [(2, 2), (2, 8)]⟩ : Rq) hr (fa_s1 c d e P)
  rw [fa_p1] at K
  refine K.mono ?_
  rintro r w' ⟨g, k1, l', g9, k9, b9, rfl, hs, _, hb9, hb⟩
  have hX : (bk b9 2).bs = [(0, 16), (1, 18)] := by
    have e1 : (bk (bareB b9) 2).bs = (bk b9 2).bs := by rw [bk_bare]; rfl
    rw [← e1, hb9]
    rfl
  have hbt := hs.2.bites 2 (by omega)
  obtain ⟨b0, o0, e0, hc⟩ := hs.2.cells (by omega)
  simp only [Option.some.injEq, Addr.mk.injEq] at e0
  obtain ⟨rfl, rfl, _⟩ := e0
  have c6 := (hc 2 (by omega)).2.2.2.2.2.2
  rw [hX] at hbt
  have hn := hbt.len
  rw [hn] at hbt c6
  exact ⟨g, k1, g9, k9, _, _, rfl, hs.2.le, hs.2.capb, c6, hbt, hb⟩
theorem fa_Sub2 (w : World) (c d e P : Nat) (hF : FarmIn w c d e 10) (hr : RunsIn w (some ⟨P, 0, none⟩) 1 1 [(2, 5)]) :
    Calls Try.prog 8 #[.agg #[.int .i64 5, .int .i64 6, .slice (some ⟨c + 4, 0, none⟩) 4 4, .slice (some ⟨e + 3, 0, none⟩) 2 2], .agg #[.int .i64 1, .int .i64 4, .int .i64 40, .int .i64 2, .slice (some ⟨P, 0, none⟩) 1 1]] w fun r w' => r = .returned (.tuple #[.agg #[.int .i64 0, .int .i64 0, .slice none 0 0, .slice none 0 0], .int .i64 0, .int .i64 9]) ∧ Below w.heap.size w w' := by
  have K := Submit_wrong w 5 6 _ _ _ _ _ _ _ _ hF.st (⟨1, 4, 40, 2, some ⟨P, 0, none⟩, 1, 1, [(2, 5)]⟩ : Rq) hr (by rw [fa_s2]; decide)
  rw [fa_s2] at K
  exact K
theorem fa_Sub3 (w : World) (c d e P : Nat) (hF : FarmIn w c d e 10) (hr : RunsIn w (some ⟨P, 0, none⟩) 1 1 [(2, 5)]) :
    Calls Try.prog 8 #[.agg #[.int .i64 5, .int .i64 6, .slice (some ⟨c + 4, 0, none⟩) 4 4, .slice (some ⟨e + 3, 0, none⟩) 2 2], .agg #[.int .i64 1, .int .i64 20, .int .i64 40, .int .i64 2, .slice (some ⟨P, 0, none⟩) 1 1]] w fun r w' => r = .returned (.tuple #[.agg #[.int .i64 0, .int .i64 0, .slice none 0 0, .slice none 0 0], .int .i64 0, .int .i64 8]) ∧ Below w.heap.size w w' :=
  Submit_full w 5 6 _ _ _ _ _ _ _ _ hF.st (⟨1, 20, 40, 2, some ⟨P, 0, none⟩, 1, 1, [(2, 5)]⟩ : Rq) hr (fa_s3 c d e P) (by decide) (by decide) (fa_p3 c d e P)
theorem fa_Can (w : World) (c d e : Nat) (hF : FarmIn w c d e 10) :
    Calls Try.prog 7 #[.agg #[.int .i64 5, .int .i64 6, .slice (some ⟨c + 4, 0, none⟩) 4 4, .slice (some ⟨e + 3, 0, none⟩) 2 2], .int .i64 1] w fun r w' => ∃ g k1 aa k9, r = .returned (.tuple #[.agg #[.int .i64 5, .int .i64 6, .slice (some ⟨g, 0, none⟩) 4 k1, .slice aa 1 k9], .int .i64 0]) ∧ Below w.heap.size w w' := by
  refine (Cancel_ok w 5 6 _ _ _ _ _ _ _ _ hF.st 1 (fa_ok c d e) 0 (fa_c1 d e)).mono ?_
  rintro r w' ⟨v, rfl, g, k1, l', aa, k9, b9, rfl, _, _, _, hb⟩
  exact ⟨g, k1, aa, k9, rfl, hb⟩
theorem fa_Tick (w : World) (c d e : Nat) (hF : FarmIn w c d e 10) :
    Calls Try.prog 16 #[.agg #[.int .i64 5, .int .i64 6, .slice (some ⟨c + 4, 0, none⟩) 4 4, .slice (some ⟨e + 3, 0, none⟩) 2 2], .int .i64 15] w fun r w' => ∃ g k1 aa k9, r = .returned (.tuple #[.agg #[.int .i64 15, .int .i64 6, .slice (some ⟨g, 0, none⟩) 4 k1, .slice aa 1 k9], .int .i64 1, .int .i64 0]) ∧ Below w.heap.size w w' := by
  refine (Tick_ok w 5 6 _ _ _ _ _ _ _ _ hF.st 15 (fa_t15 c d e)).mono ?_
  rintro r w' ⟨v, rfl, g, k1, l', aa, k9, b9, rfl, _, _, _, hb⟩
  rw [fa_l15]
  exact ⟨g, k1, aa, k9, rfl, hb⟩
theorem fa_Tick4 (w : World) (c d e : Nat) (hF : FarmIn w c d e 10) :
    Calls Try.prog 16 #[.agg #[.int .i64 5, .int .i64 6, .slice (some ⟨c + 4, 0, none⟩) 4 4, .slice (some ⟨e + 3, 0, none⟩) 2 2], .int .i64 4] w fun r w' => r = .returned (.tuple #[.agg #[.int .i64 0, .int .i64 0, .slice none 0 0, .slice none 0 0], .int .i64 0, .int .i64 9]) ∧ Below w.heap.size w w' := by
  have K := Tick_wrong w 5 6 _ _ _ _ _ _ _ _ hF.st 4 (by rw [fa_t4]; decide)
  rw [fa_t4] at K
  exact K
theorem below_drewN (w : World) (d : Nat) : Below w.heap.size w (w.drewN d) := ⟨rfl, rfl, rfl, Nat.le_refl _, fun _ _ => rfl⟩

set_option maxRecDepth 100000 in
set_option maxHeartbeats 4000000 in
theorem bookBegun_any (w : World) : Calls Try.prog 5 #[] w fun e w' => e = .returned (.bool true) ∧ Below w.heap.size w w' := by
  go_enter Try.func5, Try.ntmps5
  go_wp2_with fail
  refine (farm_any w).mono ?_
  rintro e w1 ⟨c1, d1, e1, rfl, hF, hb, _⟩
  have HB1 := hid hb
  obtain ⟨V1, hV⟩ : ∃ V, V = w1.alloc (.cells #[.int .i64 2, .int .i64 2, .int .i64 2, .int .i64 8] 52) := ⟨_, rfl⟩
  have hbV : Below w1.heap.size w1 V1 := by rw [hV]; exact (Below.refl _ _).alloc (Nat.le_refl _) _
  obtain ⟨P1, hP⟩ : ∃ P, w1.heap.size = P := ⟨_, rfl⟩
  have hL : RunsIn V1 (some ⟨P1, 0, none⟩) 2 2 [(2, 2), (2, 8)] := by rw [hV, ← hP]; exact runs_block (heap_alloc_new w1 _) _ 2 rfl rfl (Nat.le_of_ble_eq_true (by kernel_rfl))
  have HL1 := hid hL
  have HF1 := hid (hF.later hbV)
  have HV1 := hid hV
  have HBV1 := hid (below_from HB1.out hbV)
  clear hF hb hV hbV hL
  go_wp2_with fail
  rw [← HV1.out]
  refine (fa_Sub1 V1 c1 d1 e1 P1 HF1.out HL1.out).mono ?_
  rintro e w2 ⟨g2, k2, g9, k9, ba, bc, rfl, hk9, hk9b, h20, hrb, hb⟩
  have HB2 := hid (below_from HBV1.out hb)
  have RB2 : Hid (RunsIn w2 ba 2 bc [(0, 16), (1, 18)]) := hid hrb
  have C20 := hid h20
  obtain ⟨U2, hU⟩ : ∃ U, U = w2.alloc (.cells #[.int .i64 5, .int .i64 7, .slice (some ⟨g2, 0, none⟩) 4 k2, .slice (some ⟨g9, 0, none⟩) 3 k9] 25) := ⟨_, rfl⟩
  have hbU : Below w2.heap.size w2 U2 := by rw [hU]; exact (Below.refl _ _).alloc (Nat.le_refl _) _
  have HBU2 := hid (below_from HB2.out hbU)
  have HU2 := hid hU
  have RBU2 := hid ((RB2.out).later hbU)
  obtain ⟨SA, hSA⟩ : ∃ S, w2.heap.size = S := ⟨_, rfl⟩
  have SAXU2 : Hid (StBox U2 SA (.int .i64 5) (.int .i64 7) (.slice (some ⟨g2, 0, none⟩) 4 k2) (.slice (some ⟨g9, 0, none⟩) 3 k9)) := hid (by rw [hU, ← hSA]; exact StBox.new w2 _ _ _ _)
  have CCU2 : Hid (U2.cell? ⟨g9, 20, none⟩ = some (.slice ba 2 bc)) := hid (cell_later hbU h20)
  clear hU hbU h20 hrb hb C20 HL1 HF1 RB2
  go_wp2_with fail
  rw [← HU2.out]
  refine (farm_any U2).mono ?_
  rintro e w3 ⟨c3, d3, e3, rfl, hF, hb, _⟩
  have HB3 := hid (below_from HBU2.out hb)
  have RB3 := hid ((RBU2.out).later hb)
  have SAX3 := hid ((SAXU2.out).later hb)
  have CC3 := hid (cell_later hb CCU2.out)
  obtain ⟨V3, hV⟩ : ∃ V, V = w3.alloc (.cells #[.int .i64 2, .int .i64 5] 52) := ⟨_, rfl⟩
  have hbV : Below w3.heap.size w3 V3 := by rw [hV]; exact (Below.refl _ _).alloc (Nat.le_refl _) _
  obtain ⟨P3, hP⟩ : ∃ P, w3.heap.size = P := ⟨_, rfl⟩
  have hL : RunsIn V3 (some ⟨P3, 0, none⟩) 1 1 [(2, 5)] := by rw [hV, ← hP]; exact runs_block (heap_alloc_new w3 _) _ 1 rfl rfl (Nat.le_of_ble_eq_true (by kernel_rfl))
  have HL3 := hid hL
  have HF3 := hid (hF.later hbV)
  have HV3 := hid hV
  have HBV3 := hid (below_from HB3.out hbV)
  have RBV3 := hid ((RB3.out).later hbV)
  have SAXV3 := hid ((SAX3.out).later hbV)
  have CCV3 := hid (cell_later hbV CC3.out)
  clear hF hb CC3 CCU2 hV hbV hL RB3 SAX3
  go_wp2_with fail
  rw [← HV3.out]
  refine (fa_Sub2 V3 c3 d3 e3 P3 HF3.out HL3.out).mono ?_
  rintro e w4 ⟨rfl, hb⟩
  have HB4 := hid (below_from HBV3.out hb)
  have CC4 := hid (cell_later hb CCV3.out)
  have RB4 := hid ((RBV3.out).later hb)
  have SAX4 := hid ((SAXV3.out).later hb)
  obtain ⟨U4, hU⟩ : ∃ U, U = w4.alloc (.cells #[.int .i64 0, .int .i64 0, .slice none 0 0, .slice none 0 0] 25) := ⟨_, rfl⟩
  have hbU : Below w4.heap.size w4 U4 := by rw [hU]; exact (Below.refl _ _).alloc (Nat.le_refl _) _
  have HBU4 := hid (below_from HB4.out hbU)
  have HU4 := hid hU
  have RBU4 := hid ((RB4.out).later hbU)
  have SAXU4 := hid ((SAX4.out).later hbU)
  have CCU4 := hid (cell_later hbU CC4.out)
  clear hU hbU hb CC4 CCV3 HF3 HL3 RBV3 SAXV3 RB4 SAX4
  go_wp2_with fail
  rw [← HU4.out]
  refine (farm_any U4).mono ?_
  rintro e w5 ⟨c5, d5, e5, rfl, hF, hb, _⟩
  have HB5 := hid (below_from HBU4.out hb)
  have RB5 := hid ((RBU4.out).later hb)
  have SAX5 := hid ((SAXU4.out).later hb)
  have CC5 := hid (cell_later hb CCU4.out)
  obtain ⟨V5, hV⟩ : ∃ V, V = w5.alloc (.cells #[.int .i64 2, .int .i64 5] 52) := ⟨_, rfl⟩
  have hbV : Below w5.heap.size w5 V5 := by rw [hV]; exact (Below.refl _ _).alloc (Nat.le_refl _) _
  obtain ⟨P5, hP⟩ : ∃ P, w5.heap.size = P := ⟨_, rfl⟩
  have hL : RunsIn V5 (some ⟨P5, 0, none⟩) 1 1 [(2, 5)] := by rw [hV, ← hP]; exact runs_block (heap_alloc_new w5 _) _ 1 rfl rfl (Nat.le_of_ble_eq_true (by kernel_rfl))
  have HL5 := hid hL
  have HF5 := hid (hF.later hbV)
  have HV5 := hid hV
  have HBV5 := hid (below_from HB5.out hbV)
  have RBV5 := hid ((RB5.out).later hbV)
  have SAXV5 := hid ((SAX5.out).later hbV)
  have CCV5 := hid (cell_later hbV CC5.out)
  clear hF hb CC5 CCU4 hV hbV hL RB5 SAX5
  go_wp2_with fail
  rw [← HV5.out]
  refine (fa_Sub3 V5 c5 d5 e5 P5 HF5.out HL5.out).mono ?_
  rintro e w6 ⟨rfl, hb⟩
  have HB6 := hid (below_from HBV5.out hb)
  have CC6 := hid (cell_later hb CCV5.out)
  have RB6 := hid ((RBV5.out).later hb)
  have SAX6 := hid ((SAXV5.out).later hb)
  obtain ⟨U6, hU⟩ : ∃ U, U = w6.alloc (.cells #[.int .i64 0, .int .i64 0, .slice none 0 0, .slice none 0 0] 25) := ⟨_, rfl⟩
  have hbU : Below w6.heap.size w6 U6 := by rw [hU]; exact (Below.refl _ _).alloc (Nat.le_refl _) _
  have HBU6 := hid (below_from HB6.out hbU)
  have HU6 := hid hU
  have RBU6 := hid ((RB6.out).later hbU)
  have SAXU6 := hid ((SAX6.out).later hbU)
  have CCU6 := hid (cell_later hbU CC6.out)
  clear hU hbU hb CC6 CCV5 HF5 HL5 RBV5 SAXV5 RB6 SAX6
  go_wp2_with fail
  rw [← HU6.out]
  refine (farm_any U6).mono ?_
  rintro e w7 ⟨c7, d7, e7, rfl, hF, hb, _⟩
  have HB7 := hid (below_from HBU6.out hb)
  have RB7 := hid ((RBU6.out).later hb)
  have SAX7 := hid ((SAXU6.out).later hb)
  have CC7 := hid (cell_later hb CCU6.out)
  have HF7 := hid hF
  clear hF hb CCU6 RBU6 SAXU6
  go_wp2_with fail
  refine (fa_Can w7 c7 d7 e7 HF7.out).mono ?_
  rintro e w8 ⟨g8, k8, a8, m8, rfl, hb⟩
  have HB8 := hid (below_from HB7.out hb)
  have CC8 := hid (cell_later hb CC7.out)
  have RB8 := hid ((RB7.out).later hb)
  have SAX8 := hid ((SAX7.out).later hb)
  obtain ⟨U8, hU⟩ : ∃ U, U = w8.alloc (.cells #[.int .i64 5, .int .i64 6, .slice (some ⟨g8, 0, none⟩) 4 k8, .slice a8 1 m8] 25) := ⟨_, rfl⟩
  have hbU : Below w8.heap.size w8 U8 := by rw [hU]; exact (Below.refl _ _).alloc (Nat.le_refl _) _
  have HBU8 := hid (below_from HB8.out hbU)
  have HU8 := hid hU
  have RBU8 := hid ((RB8.out).later hbU)
  have SAXU8 := hid ((SAX8.out).later hbU)
  obtain ⟨SB, hSB⟩ : ∃ S, w8.heap.size = S := ⟨_, rfl⟩
  have SBXU8 : Hid (StBox U8 SB (.int .i64 5) (.int .i64 6) (.slice (some ⟨g8, 0, none⟩) 4 k8) (.slice a8 1 m8)) := hid (by rw [hU, ← hSB]; exact StBox.new w8 _ _ _ _)
  have CCU8 := hid (cell_later hbU CC8.out)
  clear hU hbU hb CC8 CC7 HF7 RB7 SAX7 RB8 SAX8
  go_wp2_with fail
  rw [← HU8.out]
  refine (farm_any U8).mono ?_
  rintro e w9 ⟨c9, d9, e9, rfl, hF, hb, _⟩
  have HB9 := hid (below_from HBU8.out hb)
  have RB9 := hid ((RBU8.out).later hb)
  have SAX9 := hid ((SAXU8.out).later hb)
  have SBX9 := hid ((SBXU8.out).later hb)
  have CC9 := hid (cell_later hb CCU8.out)
  have HF9 := hid hF
  clear hF hb CCU8 RBU8 SAXU8 SBXU8
  go_wp2_with fail
  refine (fa_Tick w9 c9 d9 e9 HF9.out).mono ?_
  rintro e w10 ⟨g10, k10, a10, m10, rfl, hb⟩
  have HB10 := hid (below_from HB9.out hb)
  have CC10 := hid (cell_later hb CC9.out)
  have RB10 := hid ((RB9.out).later hb)
  have SAX10 := hid ((SAX9.out).later hb)
  have SBX10 := hid ((SBX9.out).later hb)
  obtain ⟨U10, hU⟩ : ∃ U, U = w10.alloc (.cells #[.int .i64 15, .int .i64 6, .slice (some ⟨g10, 0, none⟩) 4 k10, .slice a10 1 m10] 25) := ⟨_, rfl⟩
  have hbU : Below w10.heap.size w10 U10 := by rw [hU]; exact (Below.refl _ _).alloc (Nat.le_refl _) _
  have HBU10 := hid (below_from HB10.out hbU)
  have HU10 := hid hU
  have RBU10 := hid ((RB10.out).later hbU)
  have SAXU10 := hid ((SAX10.out).later hbU)
  have SBXU10 := hid ((SBX10.out).later hbU)
  obtain ⟨SC, hSC⟩ : ∃ S, w10.heap.size = S := ⟨_, rfl⟩
  have SCXU10 : Hid (StBox U10 SC (.int .i64 15) (.int .i64 6) (.slice (some ⟨g10, 0, none⟩) 4 k10) (.slice a10 1 m10)) := hid (by rw [hU, ← hSC]; exact StBox.new w10 _ _ _ _)
  have CCU10 := hid (cell_later hbU CC10.out)
  clear hU hbU hb CC10 CC9 HF9 RB9 SAX9 SBX9 RB10 SAX10 SBX10
  go_wp2_with fail
  rw [← HU10.out]
  refine (farm_any U10).mono ?_
  rintro e w11 ⟨c11, d11, e11, rfl, hF, hb, _⟩
  have HB11 := hid (below_from HBU10.out hb)
  have RB11 := hid ((RBU10.out).later hb)
  have SAX11 := hid ((SAXU10.out).later hb)
  have SBX11 := hid ((SBXU10.out).later hb)
  have SCX11 := hid ((SCXU10.out).later hb)
  have CC11 := hid (cell_later hb CCU10.out)
  have HF11 := hid hF
  clear hF hb CCU10 RBU10 SAXU10 SBXU10 SCXU10
  go_wp2_with fail
  refine (fa_Tick4 w11 c11 d11 e11 HF11.out).mono ?_
  rintro e w12 ⟨rfl, hb⟩
  have HB12 := hid (below_from HB11.out hb)
  have CC12 := hid (cell_later hb CC11.out)
  have RB12 := hid ((RB11.out).later hb)
  have SAX12 := hid ((SAX11.out).later hb)
  have SBX12 := hid ((SBX11.out).later hb)
  have SCX12 := hid ((SCX11.out).later hb)
  obtain ⟨U12, hU⟩ : ∃ U, U = w12.alloc (.cells #[.int .i64 0, .int .i64 0, .slice none 0 0, .slice none 0 0] 25) := ⟨_, rfl⟩
  have hbU : Below w12.heap.size w12 U12 := by rw [hU]; exact (Below.refl _ _).alloc (Nat.le_refl _) _
  have HBU12 := hid (below_from HB12.out hbU)
  have HU12 := hid hU
  have RBU12 := hid ((RB12.out).later hbU)
  have SAXU12 := hid ((SAX12.out).later hbU)
  have SBXU12 := hid ((SBX12.out).later hbU)
  have SCXU12 := hid ((SCX12.out).later hbU)
  have CCU12 := hid (cell_later hbU CC12.out)
  clear hU hbU hb CC12 CC11 HF11 RB11 SAX11 SBX11 SCX11 RB12 SAX12 SBX12 SCX12
  obtain ⟨p0, p1, p2, p3⟩ := SAXU12.out.cells
  obtain ⟨q0, q1, q2, q3⟩ := SBXU12.out.cells
  obtain ⟨r0, r1, r2, r3⟩ := SCXU12.out.cells
  have cc := CCU12.out
  obtain ⟨V13, hV⟩ : ∃ V, V = U12.alloc (.cells #[.int .i64 0, .int .i64 16, .int .i64 1, .int .i64 18] 56) := ⟨_, rfl⟩
  have hbV : Below U12.heap.size U12 V13 := by rw [hV]; exact (Below.refl _ _).alloc (Nat.le_refl _) _
  have hP : U12.heap.size = w12.heap.size + 1 := by rw [HU12.out]; simp
  have hL : RunsIn V13 (some ⟨w12.heap.size + 1, 0, none⟩) 2 2 [(0, 16), (1, 18)] := by rw [hV, ← hP]; exact runs_block (heap_alloc_new U12 _) _ 2 rfl rfl (Nat.le_of_ble_eq_true (by kernel_rfl))
  have HKS := hid (SameBites_same V13 _ _ 2 _ _ _ (RBU12.out.later hbV) hL)
  have HV13 := hid hV
  have HBV := hid hbV
  rw [HU12.out] at p0 p1 p2 p3 q0 q1 q2 q3 r0 r1 r2 r3 cc
  clear hV hbV hL hP
  go_wp2_with fail
  rw [← HU12.out, ← HV13.out]
  refine HKS.out.mono ?_
  rintro e w13 ⟨rfl, dd, hw13⟩
  have hb13 : Below V13.heap.size V13 w13 := by rw [hw13]; exact below_drewN V13 dd
  obtain ⟨s0, s1, s2, s3⟩ := ((SBXU12.out.later HBV.out).later hb13).cells
  obtain ⟨t0, t1, t2, t3⟩ := ((SCXU12.out.later HBV.out).later hb13).cells
  have HBF := hid (below_from (below_from HBU12.out HBV.out) hb13)
  clear hb13 hw13 p0 p1 p2 p3 q0 q1 q2 q3 r0 r1 r2 r3 cc
  go_wp2
  go_ret
  exact ⟨rfl, HBF.out⟩
end Go.Proofs.Ytcgchicdmgllaae
