/- book.Submit: what it tells, where it refuses. -/
import Derived.Test.YtcgchicdmgllaafBookB
namespace Go.Proofs.Ytcgchicdmgllaaf
open Go.RowKit

def subE (c n : Int) (l : QL) (b : BL) (r : Rq) : Int := if seekE c n l b r = 0 then (if 12 ≤ b.length ∨ 1048576 ≤ n then 2 else if (placeR l b r).2 = true then 0 else 8) else seekE c n l b r
theorem seek_ok {c n : Int} {l : QL} {b : BL} {r : Rq} (h : seekE c n l b r = 0) : planE c n l b = 0 ∧ chkQR l r = 0 ∧ c ≤ r.fr := by
  unfold seekE at h
  split at h
  · rename_i h1
    split at h
    · rename_i h2
      split at h
      · cases h
      · exact ⟨h1, h2, by omega⟩
    · contradiction
  · contradiction
theorem sub_ok {c n : Int} {l : QL} {b : BL} {r : Rq} (h : subE c n l b r = 0) : seekE c n l b r = 0 ∧ b.length < 12 ∧ n < 1048576 ∧ (placeR l b r).2 = true := by
  unfold subE at h
  split at h
  · rename_i h1
    split at h
    · cases h
    · split at h
      · rename_i h2 h3
        exact ⟨h1, by omega, by omega, h3⟩
      · cases h
  · contradiction
theorem three_boxes (w : World) (a b c d : Value) (r : Rq) {W : World} (hW : W = ((w.alloc (.cells #[a, b, c, d] 25)).alloc (.cells #[.int .i64 r.queue, .int .i64 r.fr, .int .i64 r.un, .int .i64 r.kind, .slice r.pa r.pn r.pc] 28)).alloc (.cells #[.int .i64 0, .int .i64 0, .slice none 0 0, .slice none 0 0] 25)) : StBox W w.heap.size a b c d ∧ RqBox W (w.heap.size + 1) r ∧ StBox W (w.heap.size + 2) (.int .i64 0) (.int .i64 0) (.slice none 0 0) (.slice none 0 0) ∧ Below w.heap.size w W ∧ W.heap.size = w.heap.size + 3 := by
  subst hW
  obtain ⟨h1, h2, h3, h4⟩ := two_boxes w a b c d r rfl
  obtain ⟨V, hV⟩ : ∃ V, V = (w.alloc (.cells #[a, b, c, d] 25)).alloc (.cells #[.int .i64 r.queue, .int .i64 r.fr, .int .i64 r.un, .int .i64 r.kind, .slice r.pa r.pn r.pc] 28) := ⟨_, rfl⟩
  rw [← hV] at h1 h2 h3 h4 ⊢
  have hb : Below V.heap.size V (V.alloc (.cells #[.int .i64 0, .int .i64 0, .slice none 0 0, .slice none 0 0] 25)) := (Below.refl _ _).alloc (Nat.le_refl _) _
  refine ⟨h1.later hb, h2.later hb, ?_, below_from h3 hb, by simp; omega⟩
  have := StBox.new V (.int .i64 0) (.int .i64 0) (.slice none 0 0) (.slice none 0 0)
  rw [h4] at this
  exact this

set_option maxRecDepth 100000 in
set_option maxHeartbeats 1000000 in
theorem Submit_wrong (w : World) (c n : Int) (ta : Option Addr) (tn tc : Nat) (l : QL) (ba : Option Addr) (bn bc : Nat) (b : BL) (h : StIn w ta tn tc l ba bn bc b) (r : Rq) (hr : RqIn w r) (hE : seekE c n l b r ≠ 0) :
    Calls Try.prog 8 #[.agg #[.int .i64 c, .int .i64 n, .slice ta tn tc, .slice ba bn bc], .agg #[.int .i64 r.queue, .int .i64 r.fr, .int .i64 r.un, .int .i64 r.kind, .slice r.pa r.pn r.pc]] w fun e w' => e = .returned (.tuple #[.agg #[.int .i64 0, .int .i64 0, .slice none 0 0, .slice none 0 0], .int .i64 0, .int .i64 (seekE c n l b r)]) ∧ Below w.heap.size w w' := by
  obtain ⟨S, hS⟩ : ∃ S, w.heap.size = S := ⟨_, rfl⟩
  obtain ⟨W1, hW1⟩ : ∃ W1, W1 = ((w.alloc (.cells #[.int .i64 c, .int .i64 n, .slice ta tn tc, .slice ba bn bc] 25)).alloc (.cells #[.int .i64 r.queue, .int .i64 r.fr, .int .i64 r.un, .int .i64 r.kind, .slice r.pa r.pn r.pc] 28)).alloc (.cells #[.int .i64 0, .int .i64 0, .slice none 0 0, .slice none 0 0] 25) := ⟨_, rfl⟩
  obtain ⟨x1, x2, x3, hb0, hsz⟩ := three_boxes w _ _ _ _ r hW1
  rw [hS] at x1 x2 x3 hsz
  have K1 := seekCheck_any W1 c n ta tn tc l ba bn bc b (h.later hb0) r (RqIn.later hr hb0)
  have X1 := hid x1
  have X2 := hid x2
  have X3 := hid x3
  have HB0 := hid hb0
  have HW1 := hid hW1
  have HS := hid hS
  have HSZ := hid hsz
  obtain ⟨c0, c1, c2, c3⟩ := x1.cells
  obtain ⟨d0, d1, d2, d3, d4⟩ := x2.cells
  clear hW1 x1 x2 x3 hb0 h hr hsz
  obtain ⟨E, hEe⟩ : ∃ E, seekE c n l b r = E := ⟨_, rfl⟩
  rw [hEe] at K1 hE ⊢
  have hne : (E != 0) = true := by simp [hE]
  have HK1 := hid K1
  clear K1 hEe hE
  go_enter Try.func8, Try.ntmps8
  go_wp2_with fail
  rw [← HW1.out]
  refine HK1.out.mono ?_
  rintro e w1 ⟨rfl, hb⟩
  have HX := hid (X3.out.later hb)
  have HB1 := hid (below_from HB0.out hb)
  clear hb c0 c1 c2 c3 d0 d1 d2 d3 d4
  obtain ⟨y0, y1, y2, y3⟩ := HX.out.cells
  have yf : ∀ k, w1.frozen? ⟨S + 2, k, none⟩ = false := fun k => frozen_of_row w1 (S + 2) k _ _ HX.out
  go_wp2_with fail
  have hst := four_stores w1 (S + 2) 25 _ _ _ _ (.int .i64 0) (.int .i64 0) (.slice none 0 0) (.slice none 0 0) HX.out
  have h4 : w.heap.size ≤ S + 2 := by have := HS.out; omega
  refine bodyPost_ret (v := .tuple #[.agg #[.int .i64 0, .int .i64 0, .slice none 0 0, .slice none 0 0], .int .i64 0, .int .i64 E]) (results_row_tmp2 Try.results8 _ _ (S + 2) 25 #[.int .i64 0, .int .i64 0, .slice none 0 0, .slice none 0 0] (0, 0) _ rfl hst.1 Try.underlying25 rfl (by kernel_rfl)) rfl ⟨rfl, ?_⟩
  exact ((((HB1.out.setCell (p := ⟨S + 2, 0, none⟩) h4 _).setCell (p := ⟨S + 2, 1, none⟩) h4 _).setCell (p := ⟨S + 2, 2, none⟩) h4 _).setCell (p := ⟨S + 2, 3, none⟩) h4 _)

set_option maxRecDepth 100000 in
set_option maxHeartbeats 1000000 in
theorem Submit_many (w : World) (c n : Int) (ta : Option Addr) (tn tc : Nat) (l : QL) (ba : Option Addr) (bn bc : Nat) (b : BL) (h : StIn w ta tn tc l ba bn bc b) (r : Rq) (hr : RqIn w r) (hE : seekE c n l b r = 0) (hm : 12 ≤ bn ∨ 1048576 ≤ n) :
    Calls Try.prog 8 #[.agg #[.int .i64 c, .int .i64 n, .slice ta tn tc, .slice ba bn bc], .agg #[.int .i64 r.queue, .int .i64 r.fr, .int .i64 r.un, .int .i64 r.kind, .slice r.pa r.pn r.pc]] w fun e w' => e = .returned (.tuple #[.agg #[.int .i64 0, .int .i64 0, .slice none 0 0, .slice none 0 0], .int .i64 0, .int .i64 2]) ∧ Below w.heap.size w w' := by
  obtain ⟨S, hS⟩ : ∃ S, w.heap.size = S := ⟨_, rfl⟩
  obtain ⟨W1, hW1⟩ : ∃ W1, W1 = ((w.alloc (.cells #[.int .i64 c, .int .i64 n, .slice ta tn tc, .slice ba bn bc] 25)).alloc (.cells #[.int .i64 r.queue, .int .i64 r.fr, .int .i64 r.un, .int .i64 r.kind, .slice r.pa r.pn r.pc] 28)).alloc (.cells #[.int .i64 0, .int .i64 0, .slice none 0 0, .slice none 0 0] 25) := ⟨_, rfl⟩
  obtain ⟨x1, x2, x3, hb0, hsz⟩ := three_boxes w _ _ _ _ r hW1
  rw [hS] at x1 x2 x3 hsz
  have K1 := seekCheck_any W1 c n ta tn tc l ba bn bc b (h.later hb0) r (RqIn.later hr hb0)
  have X1 := hid x1
  have X2 := hid x2
  have X3 := hid x3
  have HB0 := hid hb0
  have HW1 := hid hW1
  have HS := hid hS
  have HSZ := hid hsz
  obtain ⟨c0, c1, c2, c3⟩ := x1.cells
  obtain ⟨d0, d1, d2, d3, d4⟩ := x2.cells
  clear hW1 x1 x2 x3 hb0 h hr hsz
  rw [hE] at K1
  have HK1 := hid K1
  have HM := hid hm
  clear K1 hE hm
  go_enter Try.func8, Try.ntmps8
  go_wp2_with fail
  rw [← HW1.out]
  refine HK1.out.mono ?_
  rintro e w1 ⟨rfl, hb⟩
  have HX := hid (X3.out.later hb)
  have HB1 := hid (below_from HB0.out hb)
  have HX1 := hid (X1.out.later hb)
  clear hb c0 c1 c2 c3 d0 d1 d2 d3 d4
  obtain ⟨c0, c1, c2, c3⟩ := HX1.out.cells
  obtain ⟨y0, y1, y2, y3⟩ := HX.out.cells
  have yf : ∀ k, w1.frozen? ⟨S + 2, k, none⟩ = false := fun k => frozen_of_row w1 (S + 2) k _ _ HX.out
  by_cases h12 : (12 : Int) ≤ bn
  · go_wp2_with fail
    have hst := four_stores w1 (S + 2) 25 _ _ _ _ (.int .i64 0) (.int .i64 0) (.slice none 0 0) (.slice none 0 0) HX.out
    have h4 : w.heap.size ≤ S + 2 := by have := HS.out; omega
    refine bodyPost_ret (v := .tuple #[.agg #[.int .i64 0, .int .i64 0, .slice none 0 0, .slice none 0 0], .int .i64 0, .int .i64 2]) (results_row_tmp2 Try.results8 _ _ (S + 2) 25 #[.int .i64 0, .int .i64 0, .slice none 0 0, .slice none 0 0] (0, 0) _ rfl hst.1 Try.underlying25 rfl (by kernel_rfl)) rfl ⟨rfl, ?_⟩
    exact ((((HB1.out.setCell (p := ⟨S + 2, 0, none⟩) h4 _).setCell (p := ⟨S + 2, 1, none⟩) h4 _).setCell (p := ⟨S + 2, 2, none⟩) h4 _).setCell (p := ⟨S + 2, 3, none⟩) h4 _)
  · have hn : 1048576 ≤ n := by rcases HM.out with h | h <;> omega
    go_wp2_with fail
    have hst := four_stores w1 (S + 2) 25 _ _ _ _ (.int .i64 0) (.int .i64 0) (.slice none 0 0) (.slice none 0 0) HX.out
    have h4 : w.heap.size ≤ S + 2 := by have := HS.out; omega
    refine bodyPost_ret (v := .tuple #[.agg #[.int .i64 0, .int .i64 0, .slice none 0 0, .slice none 0 0], .int .i64 0, .int .i64 2]) (results_row_tmp2 Try.results8 _ _ (S + 2) 25 #[.int .i64 0, .int .i64 0, .slice none 0 0, .slice none 0 0] (0, 0) _ rfl hst.1 Try.underlying25 rfl (by kernel_rfl)) rfl ⟨rfl, ?_⟩
    exact ((((HB1.out.setCell (p := ⟨S + 2, 0, none⟩) h4 _).setCell (p := ⟨S + 2, 1, none⟩) h4 _).setCell (p := ⟨S + 2, 2, none⟩) h4 _).setCell (p := ⟨S + 2, 3, none⟩) h4 _)

set_option maxRecDepth 100000 in
set_option maxHeartbeats 1000000 in
theorem Submit_full (w : World) (c n : Int) (ta : Option Addr) (tn tc : Nat) (l : QL) (ba : Option Addr) (bn bc : Nat) (b : BL) (h : StIn w ta tn tc l ba bn bc b) (r : Rq) (hr : RqIn w r) (hE : seekE c n l b r = 0) (h12 : (bn : Int) < 12) (hn : n < 1048576) (hp : (placeR l b r).2 = false) :
    Calls Try.prog 8 #[.agg #[.int .i64 c, .int .i64 n, .slice ta tn tc, .slice ba bn bc], .agg #[.int .i64 r.queue, .int .i64 r.fr, .int .i64 r.un, .int .i64 r.kind, .slice r.pa r.pn r.pc]] w fun e w' => e = .returned (.tuple #[.agg #[.int .i64 0, .int .i64 0, .slice none 0 0, .slice none 0 0], .int .i64 0, .int .i64 8]) ∧ Below w.heap.size w w' := by
  obtain ⟨S, hS⟩ : ∃ S, w.heap.size = S := ⟨_, rfl⟩
  obtain ⟨W1, hW1⟩ : ∃ W1, W1 = ((w.alloc (.cells #[.int .i64 c, .int .i64 n, .slice ta tn tc, .slice ba bn bc] 25)).alloc (.cells #[.int .i64 r.queue, .int .i64 r.fr, .int .i64 r.un, .int .i64 r.kind, .slice r.pa r.pn r.pc] 28)).alloc (.cells #[.int .i64 0, .int .i64 0, .slice none 0 0, .slice none 0 0] 25) := ⟨_, rfl⟩
  obtain ⟨x1, x2, x3, hb0, hsz⟩ := three_boxes w _ _ _ _ r hW1
  rw [hS] at x1 x2 x3 hsz
  have K1 := seekCheck_any W1 c n ta tn tc l ba bn bc b (h.later hb0) r (RqIn.later hr hb0)
  have X1 := hid x1
  have X2 := hid x2
  have X3 := hid x3
  have HB0 := hid hb0
  have HW1 := hid hW1
  have HS := hid hS
  have HSZ := hid hsz
  obtain ⟨c0, c1, c2, c3⟩ := x1.cells
  obtain ⟨d0, d1, d2, d3, d4⟩ := x2.cells
  have K2 := hid fun X (hX : Below w.heap.size w X) => seekPlace_any X c n ta tn tc l ba bn bc b (h.later hX) r (RqIn.later hr hX)
  clear hW1 x1 x2 x3 hb0 h hr hsz
  rw [hE] at K1
  have HK1 := hid K1
  obtain ⟨A, hA⟩ : ∃ A, placeR l b r = A := ⟨_, rfl⟩
  rw [hA] at K2 hp
  obtain ⟨A1, A2⟩ := A
  simp only at hp
  subst hp
  clear K1 hE hA
  go_enter Try.func8, Try.ntmps8
  go_wp2_with fail
  rw [← HW1.out]
  refine HK1.out.mono ?_
  rintro e w1 ⟨rfl, hb⟩
  have HB1 := hid (below_from HB0.out hb)
  have HX1 := hid (X1.out.later hb)
  have HX2 := hid (X2.out.later hb)
  have HX3 := hid (X3.out.later hb)
  clear hb c0 c1 c2 c3 d0 d1 d2 d3 d4
  obtain ⟨c0, c1, c2, c3⟩ := HX1.out.cells
  obtain ⟨d0, d1, d2, d3, d4⟩ := HX2.out.cells
  go_wp2_with fail
  refine (K2.out w1 HB1.out).mono ?_
  rintro e w2 ⟨a2, n2, k2, rfl, hR2, hb⟩
  have HX := hid (HX3.out.later hb)
  have HB2 := hid (below_from HB1.out hb)
  clear hb hR2 c0 c1 c2 c3 d0 d1 d2 d3 d4
  obtain ⟨y0, y1, y2, y3⟩ := HX.out.cells
  have yf : ∀ k, w2.frozen? ⟨S + 2, k, none⟩ = false := fun k => frozen_of_row w2 (S + 2) k _ _ HX.out
  go_wp2_with fail
  have hst := four_stores w2 (S + 2) 25 _ _ _ _ (.int .i64 0) (.int .i64 0) (.slice none 0 0) (.slice none 0 0) HX.out
  have h4 : w.heap.size ≤ S + 2 := by have := HS.out; omega
  refine bodyPost_ret (v := .tuple #[.agg #[.int .i64 0, .int .i64 0, .slice none 0 0, .slice none 0 0], .int .i64 0, .int .i64 8]) (results_row_tmp2 Try.results8 _ _ (S + 2) 25 #[.int .i64 0, .int .i64 0, .slice none 0 0, .slice none 0 0] (0, 0) _ rfl hst.1 Try.underlying25 rfl (by kernel_rfl)) rfl ⟨rfl, ?_⟩
  exact ((((HB2.out.setCell (p := ⟨S + 2, 0, none⟩) h4 _).setCell (p := ⟨S + 2, 1, none⟩) h4 _).setCell (p := ⟨S + 2, 2, none⟩) h4 _).setCell (p := ⟨S + 2, 3, none⟩) h4 _)

end Go.Proofs.Ytcgchicdmgllaaf
