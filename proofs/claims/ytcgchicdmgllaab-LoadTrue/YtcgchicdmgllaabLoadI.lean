/- Contract of the statements' own loadBegun: what must be in any case is so. -/
import Derived.Test.YtcgchicdmgllaabLoadG
namespace Go.Proofs.Ytcgchicdmgllaab
open Go.RowKit

theorem lb_chk (F c d : Nat) (ba : Option Addr) (bn : Nat) : chkL (fL F 0 6) (sownL c d ba bn [(0, 8), (1, 10)]) = 0 := by kernel_rfl
theorem lb_chk1 (F c d : Nat) (ba : Option Addr) (bn : Nat) : chkL (fL F 0 6) (sownL c d ba bn []) = 1 := by kernel_rfl
theorem lb_3 (F c d : Nat) (ba : Option Addr) (bn : Nat) : takenTo (fL F 0 6) (sownL c d ba bn [(0, 8), (1, 10)]) 2 3 = [(0, 0), (8, 3), (10, 9), (12, 6), (15, 0)] := by kernel_rfl
theorem lb_0 (F c d : Nat) (ba : Option Addr) (bn : Nat) : takenTo (fL F 0 6) (sownL c d ba bn [(0, 8), (1, 10)]) 2 0 = [(0, 0), (8, 3), (9, 4), (10, 10), (12, 7), (15, 0)] := by kernel_rfl
theorem lb_2 (F c d : Nat) (ba : Option Addr) (bn : Nat) : takenTo (fL F 0 6) (sownL c d ba bn [(0, 8), (1, 10)]) 2 2 = [(0, 0), (9, 1), (15, 0)] := by kernel_rfl
theorem lb_f0 (F c d : Nat) (ba : Option Addr) (bn : Nat) : fitsR (fL F 0 6) (sownL c d ba bn [(0, 8), (1, 10)]) 0 = false := by kernel_rfl
theorem lb_f12 (F c d : Nat) (ba : Option Addr) (bn : Nat) : fitsR (fL F 0 6) (sownL c d ba bn [(0, 8), (1, 10)]) 12 = true := by kernel_rfl
theorem lb_f49 (F c d : Nat) (ba : Option Addr) (bn : Nat) : fitsR (fL F 0 6) (sownL c d ba bn [(0, 8), (1, 10)]) 49 = false := by kernel_rfl
theorem lb_e0 (F c d : Nat) (ba : Option Addr) (bn : Nat) : fitsE (fL F 0 6) (sownL c d ba bn [(0, 8), (1, 10)]) 0 = 0 := by kernel_rfl
theorem lb_e12 (F c d : Nat) (ba : Option Addr) (bn : Nat) : fitsE (fL F 0 6) (sownL c d ba bn [(0, 8), (1, 10)]) 12 = 0 := by kernel_rfl
theorem lb_e49 (F c d : Nat) (ba : Option Addr) (bn : Nat) : fitsE (fL F 0 6) (sownL c d ba bn [(0, 8), (1, 10)]) 49 = 3 := by kernel_rfl

set_option maxRecDepth 100000 in
set_option maxHeartbeats 4000000 in
theorem loadBegun_any (w : World) : Calls Try.prog 21 #[] w fun e w' => e = .returned (.bool true) ∧ Below w.heap.size w w' := by
  go_enter Try.func21, Try.ntmps21
  have HB := hid (Below.refl w.heap.size w)
  go_wp2_with fail
  refine (field_any w).mono ?_
  rintro e f1 ⟨rfl, hf, hb⟩
  obtain ⟨F1, hF⟩ : ∃ F, w.heap.size = F := ⟨_, rfl⟩
  rw [hF] at hf ⊢
  clear hF
  have HF := hid hf
  have HB1f := hid (below_from HB.out hb)
  clear hf hb HB 
  go_wp2_with fail
  refine (sown_any f1).mono ?_
  rintro e s1 ⟨c1, d1, rfl, hs, hb, _⟩
  have HS := hid hs
  have HFq := hid (HF.out.later hb).qs
  have HB1s := hid (below_from HB1f.out hb)
  clear hs hb HF HB1f 
  go_wp2_with fail
  have K := Of_any s1 _ 4 4 (fL F1 0 6) HFq.out _ 2 2 _ HS.out.bks
  rw [lb_chk, show (sownL c1 d1 (some ⟨d1, 0, none⟩) 2 [(0, 8), (1, 10)]).length = 2 from rfl] at K
  refine K.mono ?_
  clear K
  rintro e o1 ⟨a, m, k, rfl, ht, _, hb⟩
  obtain ⟨G, rfl, rfl, rfl, htk⟩ := ht rfl
  have HT := hid htk
  have HB1o := hid (below_from HB1s.out hb)
  clear ht htk hb HB1s HFq HS
  go_wp2_with fail
  refine (field_any o1).mono ?_
  rintro e f2 ⟨rfl, hf, hb⟩
  obtain ⟨F2, hF⟩ : ∃ F, o1.heap.size = F := ⟨_, rfl⟩
  rw [hF] at hf ⊢
  clear hF
  have HF := hid hf
  have HB2f := hid (below_from HB1o.out hb)
  have HTf := hid (HT.out.later hb)
  clear hf hb HB1o HT
  go_wp2_with fail
  refine (sown_any f2).mono ?_
  rintro e s2 ⟨c2, d2, rfl, hs, hb, _⟩
  have HS := hid hs
  have HFq := hid (HF.out.later hb).qs
  have HB2s := hid (below_from HB2f.out hb)
  have HTfs := hid (HTf.out.later hb)
  clear hs hb HF HB2f HTf
  go_wp2_with fail
  have K := Fits_any s2 _ 4 4 (fL F2 0 6) HFq.out _ 2 2 _ HS.out.bks 0
  rw [lb_f0, lb_e0] at K
  refine K.mono ?_
  clear K
  rintro e o2 ⟨rfl, hb⟩
  have HB2o := hid (below_from HB2s.out hb)
  have HTfso := hid (HTfs.out.later hb)
  clear hb HFq HS HB2s HTfs
  go_wp2_with fail
  refine (field_any o2).mono ?_
  rintro e f3 ⟨rfl, hf, hb⟩
  obtain ⟨F3, hF⟩ : ∃ F, o2.heap.size = F := ⟨_, rfl⟩
  rw [hF] at hf ⊢
  clear hF
  have HF := hid hf
  have HB3f := hid (below_from HB2o.out hb)
  have HTfsof := hid (HTfso.out.later hb)
  clear hf hb HB2o HTfso
  go_wp2_with fail
  refine (sown_any f3).mono ?_
  rintro e s3 ⟨c3, d3, rfl, hs, hb, _⟩
  have HS := hid hs
  have HFq := hid (HF.out.later hb).qs
  have HB3s := hid (below_from HB3f.out hb)
  have HTfsofs := hid (HTfsof.out.later hb)
  clear hs hb HF HB3f HTfsof
  go_wp2_with fail
  have K := Fits_any s3 _ 4 4 (fL F3 0 6) HFq.out _ 2 2 _ HS.out.bks 12
  rw [lb_f12, lb_e12] at K
  refine K.mono ?_
  clear K
  rintro e o3 ⟨rfl, hb⟩
  have HB3o := hid (below_from HB3s.out hb)
  have HTfsofso := hid (HTfsofs.out.later hb)
  clear hb HFq HS HB3s HTfsofs
  go_wp2_with fail
  refine (field_any o3).mono ?_
  rintro e f4 ⟨rfl, hf, hb⟩
  obtain ⟨F4, hF⟩ : ∃ F, o3.heap.size = F := ⟨_, rfl⟩
  rw [hF] at hf ⊢
  clear hF
  have HF := hid hf
  have HB4f := hid (below_from HB3o.out hb)
  have HTfsofsof := hid (HTfsofso.out.later hb)
  clear hf hb HB3o HTfsofso
  go_wp2_with fail
  refine (sown_any f4).mono ?_
  rintro e s4 ⟨c4, d4, rfl, hs, hb, _⟩
  have HS := hid hs
  have HFq := hid (HF.out.later hb).qs
  have HB4s := hid (below_from HB4f.out hb)
  have HTfsofsofs := hid (HTfsofsof.out.later hb)
  clear hs hb HF HB4f HTfsofsof
  go_wp2_with fail
  have K := Fits_any s4 _ 4 4 (fL F4 0 6) HFq.out _ 2 2 _ HS.out.bks 49
  rw [lb_f49, lb_e49] at K
  refine K.mono ?_
  clear K
  rintro e o4 ⟨rfl, hb⟩
  have HB4o := hid (below_from HB4s.out hb)
  have HTfsofsofso := hid (HTfsofsofs.out.later hb)
  clear hb HFq HS HB4s HTfsofsofs
  go_wp2_with fail
  refine (sown_any o4).mono ?_
  rintro e s5 ⟨c5, d5, rfl, hs, hb, hd5⟩
  have hbx := below_from HB4o.out hb
  have hl5 : w.heap.size ≤ d5 + 3 := by have := HB4o.out.size; omega
  have HT5 := hid (HTfsofsofso.out.later hb)
  have hlt5 := (Array.getElem?_eq_some_iff.1 hs.row).1
  have cc := cell_of_row s5 (d5 + 3) 6 _ _ _ hs.row
  have fz := frozen_of_row s5 (d5 + 3) 6 _ _ hs.row
  have HST := hid hs.strip
  have hGne : G ≠ d5 + 3 := by
    obtain ⟨a, m, k, h1, _⟩ := HTfsofsofso.out 0 (by decide)
    have : G < o4.heap.size := block_lt_of_cell h1
    omega
  have HTQ : Hid (∀ q, q < 4 → ∃ a m c, (s5.setCell ⟨d5 + 3, 6, none⟩ (.slice none 0 0)).cell? ⟨G, q, none⟩ = some (.slice a m c) ∧ RunsIn (s5.setCell ⟨d5 + 3, 6, none⟩ (.slice none 0 0)) a m c (takenTo (fL F1 0 6) (sownL c1 d1 (some ⟨d1, 0, none⟩) 2 [(0, 8), (1, 10)]) 2 q)) := fun q hq => by
    obtain ⟨a, m, k, h1, h2⟩ := HTfsofsofso.out q hq
    refine ⟨a, m, k, (World.cell?_of_block (w := s5) (a := ⟨G, q, none⟩) (Below.heap_setCell _ _ _ _ (by simpa using hGne))).trans (cell_later hb h1), ?_⟩
    by_cases hm : 0 < m
    · obtain ⟨b, off, e, hc⟩ := h2.cells hm
      have hb4 : b < o4.heap.size := block_lt_of_cell (hc 0 hm).1
      exact (h2.later hb).blocks fun b' off' e' => Below.heap_setCell _ _ _ _ (by rw [e] at e'; cases e'; show b ≠ d5 + 3; omega)
    · exact ⟨h2.len, h2.le, h2.bound, h2.capb, fun h => absurd h hm⟩
  have HBX : Hid (Below w.heap.size w (s5.setCell ⟨d5 + 3, 6, none⟩ (.slice none 0 0))) := hbx.setCell hl5 _
  clear hs hb hbx HB4o HTfsofsofso HT5
  go_wp2_with fail
  obtain ⟨W5, hW5⟩ : ∃ W5, s5.setCell ⟨d5 + 3, 6, none⟩ (.slice none 0 0) = W5 := ⟨_, rfl⟩
  rw [hW5] at HST HTQ HBX ⊢
  clear hW5 cc fz hlt5
  refine (field_any W5).mono ?_
  rintro e f6 ⟨rfl, hf, hb⟩
  obtain ⟨F6, hF⟩ : ∃ F, W5.heap.size = F := ⟨_, rfl⟩
  rw [hF] at hf ⊢
  clear hF
  have HFq := hid hf.qs
  have HS6 := hid (HST.out.later hb)
  have HT6 : Hid (TakenIn f6 G 4 (takenTo (fL F1 0 6) (sownL c1 d1 (some ⟨d1, 0, none⟩) 2 [(0, 8), (1, 10)]) 2)) := TakenIn.later HTQ.out hb
  have HB6 := hid (below_from HBX.out hb)
  clear hf hb HST HTQ HBX
  go_wp2_with fail
  have K := Of_any f6 _ 4 4 (fL F6 0 6) HFq.out _ 2 2 _ HS6.out.bks
  rw [lb_chk1] at K
  refine K.mono ?_
  clear K
  rintro e o6 ⟨a, m, k, rfl, _, hz, hb⟩
  obtain ⟨rfl, rfl, rfl⟩ := hz (by decide)
  have HT7 := hid (HT6.out.later hb)
  have HB7 := hid (below_from HB6.out hb)
  clear hz hb HT6 HB6 HFq HS6
  obtain ⟨a3, m3, k3, e3, r3⟩ := HT7.out 3 (by decide)
  obtain ⟨a0, m0, k0, e0, r0⟩ := HT7.out 0 (by decide)
  obtain ⟨a2, m2, k2, e2, r2⟩ := HT7.out 2 (by decide)
  rw [lb_3] at r3
  rw [lb_0] at r0
  rw [lb_2] at r2
  obtain rfl : m3 = 5 := r3.len
  obtain rfl : m0 = 6 := r0.len
  obtain rfl : m2 = 3 := r2.len
  have R3 := hid r3
  have R0 := hid r0
  have R2 := hid r2
  have E0 := hid e0
  have E2 := hid e2
  clear r3 r0 r2 HT7 e0 e2
  go_wp2_with fail
  have hb3 : Below o6.heap.size o6 (o6.alloc (.cells #[.int .i64 0, .int .i64 0, .int .i64 8, .int .i64 3, .int .i64 10, .int .i64 9, .int .i64 12, .int .i64 6, .int .i64 15, .int .i64 0] 75)) := (Below.refl _ _).alloc (Nat.le_refl _) _
  refine (SameRuns_same _ _ _ 5 _ _ [(0, 0), (8, 3), (10, 9), (12, 6), (15, 0)] (R3.out.later hb3) (runs_lit o6 [(0, 0), (8, 3), (10, 9), (12, 6), (15, 0)] _ 5 rfl rfl (by decide))).mono ?_
  rintro e x3 ⟨rfl, hd⟩
  have hb := below_from hb3 (below_of_drawn hd)
  have HB8 := hid (below_from HB7.out hb)
  have R0' := hid (R0.out.later hb)
  have R2' := hid (R2.out.later hb)
  have e0 := cell_later hb E0.out
  have E2' := hid (cell_later hb E2.out)
  clear hb hb3 hd HB7 R0 R2 E0 E2 e3 R3
  go_wp2_with fail
  have hb0 : Below x3.heap.size x3 (x3.alloc (.cells #[.int .i64 0, .int .i64 0, .int .i64 8, .int .i64 3, .int .i64 9, .int .i64 4, .int .i64 10, .int .i64 10, .int .i64 12, .int .i64 7, .int .i64 15, .int .i64 0] 75)) := (Below.refl _ _).alloc (Nat.le_refl _) _
  refine (SameRuns_same _ _ _ 6 _ _ [(0, 0), (8, 3), (9, 4), (10, 10), (12, 7), (15, 0)] (R0'.out.later hb0) (runs_lit x3 [(0, 0), (8, 3), (9, 4), (10, 10), (12, 7), (15, 0)] _ 6 rfl rfl (by decide))).mono ?_
  rintro e x0 ⟨rfl, hd⟩
  have hb := below_from hb0 (below_of_drawn hd)
  have HB9 := hid (below_from HB8.out hb)
  have R2'' := hid (R2'.out.later hb)
  have e2 := cell_later hb E2'.out
  clear hb hb0 hd HB8 R0' R2' E2' e0
  go_wp2_with fail
  have hb2 : Below x0.heap.size x0 (x0.alloc (.cells #[.int .i64 0, .int .i64 0, .int .i64 9, .int .i64 1, .int .i64 15, .int .i64 0] 75)) := (Below.refl _ _).alloc (Nat.le_refl _) _
  refine (SameRuns_same _ _ _ 3 _ _ [(0, 0), (9, 1), (15, 0)] (R2''.out.later hb2) (runs_lit x0 [(0, 0), (9, 1), (15, 0)] _ 3 rfl rfl (by decide))).mono ?_
  rintro e x2 ⟨rfl, hd⟩
  have hb := below_from hb2 (below_of_drawn hd)
  have HB10 := hid (below_from HB9.out hb)
  clear hb hb2 hd e2
  go_wp2
  go_ret
  exact ⟨rfl, HB10.out⟩
end Go.Proofs.Ytcgchicdmgllaab
