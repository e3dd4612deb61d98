/- Several texts in one: LogS, Bulk. -/
import Derived.Test.YtckpdfkobdgjeaaGreatDoorKAll11
import Derived.Test.YtckpdfkobdgjeaaGreatDoorKAll3
import Derived.JoinedCond
namespace Go.Proofs.YtckpdfkobdgjeaaGreatDoor
open Go.RowKit
theorem do_named {s : St} {x y : Ac} (hk : y.kind = x.kind) (h1 : x.kind = 1 → y.rq = x.rq) (h2 : x.kind ≠ 1 → y.n = x.n) (h4 : x.kind = 4 → y.cs = x.cs) : doE s y = doE s x ∧ doS s y = doS s x ∨ x.kind ≠ 1 ∧ x.kind ≠ 2 ∧ x.kind ≠ 3 ∧ x.kind ≠ 4 := by
  by_cases k1 : x.kind = 1
  · refine Or.inl ⟨?_, ?_⟩
    · unfold doE; rw [hk, if_pos k1, if_pos k1, h1 k1]
    · unfold doS; rw [hk, if_pos k1, if_pos k1, h1 k1]
  by_cases k2 : x.kind = 2
  · refine Or.inl ⟨?_, ?_⟩
    · unfold doE; rw [hk, if_neg k1, if_neg k1, if_pos k2, if_pos k2, h2 k1]
    · unfold doS; rw [hk, if_neg k1, if_neg k1, if_pos k2, if_pos k2, h2 k1]
  by_cases k3 : x.kind = 3
  · refine Or.inl ⟨?_, ?_⟩
    · unfold doE; rw [hk, if_neg k1, if_neg k1, if_neg k2, if_neg k2, if_pos k3, if_pos k3, h2 k1]
    · unfold doS; rw [hk, if_neg k1, if_neg k1, if_neg k2, if_neg k2, if_pos k3, if_pos k3, h2 k1]
  by_cases k4 : x.kind = 4
  · refine Or.inl ⟨?_, ?_⟩
    · unfold doE; rw [hk, if_neg k1, if_neg k1, if_neg k2, if_neg k2, if_neg k3, if_neg k3, if_pos k4, if_pos k4, h2 k1, h4 k4]
    · unfold doS; rw [hk, if_neg k1, if_neg k1, if_neg k2, if_neg k2, if_neg k3, if_neg k3, h2 k1, h4 k4]
  exact Or.inr ⟨k1, k2, k3, k4⟩
set_option maxRecDepth 100000 in
set_option maxHeartbeats 8000000 in
theorem LogRight_any (w : World) (c n : Int) (ta : Option Addr) (tn tc : Nat) (l : QL) (ba : Option Addr) (bn bc : Nat) (b : BL) (h : StIn w ta tn tc l ba bn bc b) (x : Ac) (hx : AcIn w x) (_hpn : x.rq.pn ≤ 1048576) (hcn : x.cn ≤ 1048576) (m : Int) (_m0 : -9223372036854775808 ≤ m) (_m1 : m ≤ 9223372036854775807) (v : Value) (hv : Told w v) :
    Calls Tryz.prog 7 #[.agg #[.int .i64 c, .int .i64 n, .slice ta tn tc, .slice ba bn bc], .agg #[.int .i64 x.kind, .int .i64 x.n, .int .i64 x.rq.queue, .int .i64 x.rq.fr, .int .i64 x.rq.un, .int .i64 x.rq.kind, .slice x.rq.pa x.rq.pn x.rq.pc, .slice x.ca x.cn x.cc], .int .i64 m] w fun e w' => e = .returned (.bool true) ∧ Below w.heap.size w w' := by
  obtain ⟨kd, nn, ⟨q, f, u, rk, pa, pn, pc, ps⟩, ca, cn, cc, cs⟩ := x
  simp only
  obtain ⟨S, hS⟩ : ∃ S, w.heap.size = S := ⟨_, rfl⟩
  obtain ⟨W0, hW0⟩ : ∃ W, W = w.alloc (.cells #[.int .i64 c, .int .i64 n, .slice ta tn tc, .slice ba bn bc] 40) := ⟨_, rfl⟩
  obtain ⟨W1, hW1⟩ : ∃ W, W = W0.alloc (.cells #[.int .i64 kd, .int .i64 nn, .int .i64 q, .int .i64 f, .int .i64 u, .int .i64 rk, .slice pa pn pc, .slice ca cn cc] 27) := ⟨_, rfl⟩
  have b0 : Below w.heap.size w W0 := by rw [hW0]; exact (Below.refl _ _).alloc (Nat.le_refl _) _
  have b01 : Below W0.heap.size W0 W1 := by rw [hW1]; exact (Below.refl _ _).alloc (Nat.le_refl _) _
  have b1 := below_from b0 b01
  have s0 : W0.heap.size = S + 1 := by rw [hW0, ← hS]; simp
  have x1 : StBox W1 S (.int .i64 c) (.int .i64 n) (.slice ta tn tc) (.slice ba bn bc) := by
    have : StBox W0 S (.int .i64 c) (.int .i64 n) (.slice ta tn tc) (.slice ba bn bc) := by rw [hW0, ← hS]; exact StBox.new w _ _ _ _
    exact this.later b01
  have y1 : AcBox W1 (S + 1) (.int .i64 kd) (.int .i64 nn) (.int .i64 q) (.int .i64 f) (.int .i64 u) (.int .i64 rk) (.slice pa pn pc) (.slice ca cn cc) := by rw [hW1, ← s0]; exact heap_alloc_new W0 _
  have K1 := Do_any W1 c n ta tn tc l ba bn bc b (h.later b1) ⟨kd, nn, ⟨q, f, u, rk, pa, pn, pc, ps⟩, ca, cn, cc, cs⟩ (hx.later b1) hcn
  obtain ⟨E, hE⟩ : ∃ E, doE ⟨c, n, l, b⟩ ⟨kd, nn, ⟨q, f, u, rk, pa, pn, pc, ps⟩, ca, cn, cc, cs⟩ = E := ⟨_, rfl⟩
  rw [hE] at K1
  obtain ⟨st', hst'⟩ : ∃ s', doS ⟨c, n, bareQ l, bareB b⟩ (Ac.bare ⟨kd, nn, ⟨q, f, u, rk, pa, pn, pc, ps⟩, ca, cn, cc, cs⟩) = s' := ⟨_, rfl⟩
  rw [hst'] at K1
  have KB := hid fun X (hX : Below w.heap.size w X) => logBegun_any X v (hv.laters hX)
  have HK1 := hid K1
  have HE := hid hE
  have HSS := hid hst'
  have HST := hid h
  have HAX := hid hx
  have HB1 := hid b1
  have HX1 := hid x1
  have HY1 := hid y1
  obtain ⟨c0, c1, c2, c3⟩ := x1.cells
  obtain ⟨a0, a1, a2, a3, a4, a5, a6, a7⟩ := y1.cells
  rw [hW0] at hW1
  have HW1 := hid hW1
  clear hW0 hW1 b0 b01 b1 s0 x1 y1 K1 hE hst' h hx hv
  rw [HW1.out] at c0 c1 c2 c3 a0 a1 a2 a3 a4 a5 a6 a7
  go_enter Tryz.func7, Tryz.ntmps7
  go_wp2_with fail
  rw [← HW1.out]
  refine HK1.out.mono ?_
  rintro e w2 ⟨c', n', ta', tn', tc', ba', bn', bc', rfl, hO, hb⟩
  obtain ⟨Q, hQ⟩ : ∃ Q, w2.heap.size = Q := ⟨_, rfl⟩
  obtain ⟨W3, hW3⟩ : ∃ W, W = w2.alloc (.cells #[.int .i64 c', .int .i64 n', .slice ta' tn' tc', .slice ba' bn' bc'] 40) := ⟨_, rfl⟩
  have b3 : Below w2.heap.size w2 W3 := by rw [hW3]; exact (Below.refl _ _).alloc (Nat.le_refl _) _
  have bb3 := below_from hb b3
  have x3 : StBox W3 Q (.int .i64 c') (.int .i64 n') (.slice ta' tn' tc') (.slice ba' bn' bc') := by rw [hW3, ← hQ]; exact StBox.new w2 _ _ _ _
  have HB3 := hid (below_from HB1.out bb3)
  have HT3 := hid x3
  have HX3 := hid (HX1.out.later bb3)
  have HY3 := hid (show AcBox W3 (S + 1) (.int .i64 kd) (.int .i64 nn) (.int .i64 q) (.int .i64 f) (.int .i64 u) (.int .i64 rk) (.slice pa pn pc) (.slice ca cn cc) from (bb3.block (S + 1) (Array.getElem?_eq_some_iff.1 HY1.out).1).trans HY1.out)
  have HO3 := hid (hO.later b3)
  have hs3 : W3.heap.size = Q + 1 := by rw [hW3, ← hQ]; simp
  have HS3 := hid hs3
  have hSQ : S + 1 < Q := by have := (Array.getElem?_eq_some_iff.1 HY1.out).1; have := hb.size; omega
  clear hO hb b3 bb3 x3 c0 c1 c2 c3 a0 a1 a2 a3 a4 a5 a6 a7 hs3
  by_cases hE0 : E = 0
  case neg =>
    have hE1 : (E != 0) = true := by simpa using hE0
    clear hE0
    go_upto_region 2 with fail
    rw [← hW3]
    clear hW3
    go_wp2_with fail
    refine (KB.out W3 HB3.out).mono ?_
    rintro e w9 ⟨rfl, hb⟩
    have HB9 := hid (below_from HB3.out hb)
    clear hb
    go_wp2
    go_ret
    exact ⟨rfl, HB9.out⟩
  subst hE0
  obtain ⟨lt, bt, hT⟩ : ∃ lt bt, StIn W3 ta' tn' tc' lt ba' bn' bc' bt ∧ c' = st'.c ∧ n' = st'.n ∧ bareQ lt = st'.l ∧ bareB bt = st'.b := by
    rcases HO3.out with ⟨h0, _⟩ | ⟨_, l0, b0, h1, h2, h3, h4, h5, _⟩
    · exact absurd rfl h0
    · exact ⟨l0, b0, h1, h2, h3, h4, h5⟩
  have HT := hid hT
  have hpl : planE c' n' lt bt = 0 := by
    obtain ⟨_, t1, t2, t3, t4⟩ := hT
    have h1 := doS_right (s := ⟨c, n, bareQ l, bareB b⟩) (x := Ac.bare ⟨kd, nn, ⟨q, f, u, rk, pa, pn, pc, ps⟩, ca, cn, cc, cs⟩) (bareB2 b) (by rw [doE_bare]; exact HE.out)
    rw [HSS.out, ← t1, ← t2, ← t3, ← t4, planE_bare] at h1
    exact h1
  have HPL := hid hpl
  obtain ⟨P, hP⟩ : ∃ P, W3.heap.size = P := ⟨_, rfl⟩
  have hPQ : P = Q + 1 := hP.symm.trans HS3.out
  have HPQ := hid hPQ
  clear hPQ
  obtain ⟨W4, hW4⟩ : ∃ W, W = W3.alloc (.cells #[.int .i64 kd, .int .i64 nn, .int .i64 q, .int .i64 f, .int .i64 u, .int .i64 rk, .slice pa pn pc, .slice ca cn cc] 27) := ⟨_, rfl⟩
  have b4 : Below W3.heap.size W3 W4 := by rw [hW4]; exact (Below.refl _ _).alloc (Nat.le_refl _) _
  have HZ4 := hid (show AcBox W4 P (.int .i64 kd) (.int .i64 nn) (.int .i64 q) (.int .i64 f) (.int .i64 u) (.int .i64 rk) (.slice pa pn pc) (.slice ca cn cc) from by rw [hW4, ← hP]; exact heap_alloc_new W3 _)
  have HB4 := hid (below_from HB3.out b4)
  have HBB := hid b4
  obtain ⟨a0, a1, a2, a3, a4, a5, a6, a7⟩ := HY3.out.cells
  clear hT hpl b4
  go_upto_region 2 with fail
  rw [← hW3]
  clear hW3
  go_upto_region 5 with fail
  rw [← hW4]
  have z4 : W4.heap.size = P + 1 := by rw [hW4, ← hP]; simp
  clear hW4 a0 a1 a2 a3 a4 a5 a6 a7
  obtain ⟨a0, a1, a2, a3, a4, a5, a6, a7⟩ := (show AcBox W4 (S + 1) (.int .i64 kd) (.int .i64 nn) (.int .i64 q) (.int .i64 f) (.int .i64 u) (.int .i64 rk) (.slice pa pn pc) (.slice ca cn cc) from (HBB.out.block (S + 1) (Array.getElem?_eq_some_iff.1 HY3.out).1).trans HY3.out).cells
  obtain ⟨z0, z1, z2, z3, z5, z6, z7, z8⟩ := HZ4.out.cells
  have zf : ∀ k, W4.frozen? ⟨P, k, none⟩ = false := fun k => frozen_of_row W4 P k _ _ HZ4.out
  by_cases k1 : kd = 1
  · subst k1
    obtain ⟨W5, hW5⟩ : ∃ W, W = ((W4.setCell ⟨P, 1, none⟩ (.int .i64 m)).setCell ⟨P, 7, none⟩ (.slice (some ⟨P + 1, 0, none⟩) 1 1)) := ⟨_, rfl⟩
    have zb5 : AcBox W5 P (.int .i64 1) (.int .i64 m) (.int .i64 q) (.int .i64 f) (.int .i64 u) (.int .i64 rk) (.slice pa pn pc) (.slice (some ⟨P + 1, 0, none⟩) 1 1) := by
      have e0 := HZ4.out
      have e1 := heap_setCell_same _ P 1 _ _ (.int .i64 m) e0
      have e2 := heap_setCell_same _ P 7 _ _ (.slice (some ⟨P + 1, 0, none⟩) 1 1) e1
      rw [hW5]
      exact e2
    have bs5 : Below P W3 W5 := by
      have hP' := HBB.out
      rw [hP] at hP'
      rw [hW5]
      exact ((hP').setCell (p := ⟨P, 1, none⟩) (Nat.le_refl P) _).setCell (p := ⟨P, 7, none⟩) (Nat.le_refl P) _
    have sz5 : W5.heap.size = P + 1 := by rw [hW5]; simp [World.setCell]; exact z4
    obtain ⟨W6, hW6⟩ : ∃ W, W = W5.alloc (.cells #[.int .i64 m, .int .i64 0] 55) := ⟨_, rfl⟩
    have b56 : Below W5.heap.size W5 W6 := by rw [hW6]; exact (Below.refl _ _).alloc (Nat.le_refl _) _
    have r6 : W6.heap[P + 1]? = some (.cells #[.int .i64 m, .int .i64 0] 55 (0, 0)) := by rw [hW6, ← sz5]; exact heap_alloc_new W5 _
    have rn6 : RunsIn W6 (some ⟨P + 1, 0, none⟩) 1 1 [(m, 0)] := ⟨rfl, Nat.le_refl _, by omega, by omega, fun _ => ⟨P + 1, 0, rfl, fun i hi => by
      obtain rfl : i = 0 := by omega
      exact ⟨by rw [cell_of_row W6 (P + 1) _ _ _ _ r6]; rfl, by rw [cell_of_row W6 (P + 1) _ _ _ _ r6]; rfl⟩⟩⟩
    have zb6 : AcBox W6 P (.int .i64 1) (.int .i64 m) (.int .i64 q) (.int .i64 f) (.int .i64 u) (.int .i64 rk) (.slice pa pn pc) (.slice (some ⟨P + 1, 0, none⟩) 1 1) := (b56.block P (by omega)).trans zb5
    have bs6 : Below P W3 W6 := bs5.trans (b56.mono (by omega))
    have bs6' : Below W3.heap.size W3 W6 := by rw [hP]; exact bs6
    have HB6 := hid (below_from HB3.out bs6')
    have HX6 := hid (HX3.out.later bs6')
    have HT6 := hid (HT3.out.later bs6')
    have HTS6 := hid (HT.out.1.later bs6')
    obtain ⟨Y, hY⟩ : ∃ Y : Ac, Y = ⟨1, m, ⟨q, f, u, rk, pa, pn, pc, ps⟩, some ⟨P + 1, 0, none⟩, 1, 1, [(m, 0)]⟩ := ⟨_, rfl⟩
    have hYin : AcIn W6 Y := by rw [hY]; exact ⟨(HAX.out.later HB6.out).1, rn6⟩
    have hYn : Y.cn ≤ 1048576 := by rw [hY]; show 1 ≤ _; omega
    have K2 := Do_any W6 c n ta tn tc l ba bn bc b (HST.out.later HB6.out) Y hYin hYn
    have hnm := do_named (s := ⟨c, n, l, b⟩) (x := ⟨1, nn, ⟨q, f, u, rk, pa, pn, pc, ps⟩, ca, cn, cc, cs⟩) (y := Y) (by rw [hY]) (by rw [hY]; intro _; rfl) (by rw [hY]; intro e; exact absurd rfl e) (by rw [hY]; intro e; exact absurd e (show ¬ ((1 : Int) = 4) by decide))
    have hnm' := do_named (s := ⟨c, n, bareQ l, bareB b⟩) (x := Ac.bare ⟨1, nn, ⟨q, f, u, rk, pa, pn, pc, ps⟩, ca, cn, cc, cs⟩) (y := Y.bare) (by rw [hY]; rfl) (by rw [hY]; intro _; rfl) (by rw [hY]; intro e; exact absurd rfl e) (by rw [hY]; intro e; exact absurd e (show ¬ ((1 : Int) = 4) by decide))
    have d1 : doE ⟨c, n, l, b⟩ Y = 0 := by
      rcases hnm with h1 | h1
      · rw [h1.1]; exact HE.out
      · exact absurd rfl h1.1
    have d2 : doS ⟨c, n, bareQ l, bareB b⟩ Y.bare = st' := by
      rcases hnm' with h1 | h1
      · rw [h1.2]; exact HSS.out
      · exact absurd rfl h1.1
    rw [d1, d2, hY] at K2
    have HK2 := hid K2
    have HWW := hid (show (((W4.setCell ⟨P, 1, none⟩ (.int .i64 m)).setCell ⟨P, 7, none⟩ (.slice (some ⟨P + 1, 0, none⟩) 1 1)).alloc (.cells #[.int .i64 m, .int .i64 0] 55)) = W6 by rw [hW6, hW5])
    have HZ6 := hid zb6
    clear hnm hnm' d1 d2 K2 hYin hYn hY zb5 bs5 sz5 b56 zb6 bs6 bs6' hW5 hW6 r6 rn6
    go_upto_region 13 with fail
    rw [HWW.out]
    clear HWW a0 a1 a2 a3 a4 a5 a6 a7 z0 z1 z2 z3 z5 z6 z7 z8 zf
    obtain ⟨c0, c1, c2, c3⟩ := HX6.out.cells
    obtain ⟨a0, a1, a2, a3, a4, a5, a6, a7⟩ := HZ6.out.cells
    go_wp2_with fail
    refine HK2.out.mono ?_
    rintro e w7 ⟨c8, n8, ta8, tn8, tc8, ba8, bn8, bc8, rfl, hO, hb⟩
    obtain ⟨R, hR⟩ : ∃ R, w7.heap.size = R := ⟨_, rfl⟩
    obtain ⟨W8, hW8⟩ : ∃ W, W = w7.alloc (.cells #[.int .i64 c8, .int .i64 n8, .slice ta8 tn8 tc8, .slice ba8 bn8 bc8] 40) := ⟨_, rfl⟩
    have b8 : Below w7.heap.size w7 W8 := by rw [hW8]; exact (Below.refl _ _).alloc (Nat.le_refl _) _
    have bb8 := below_from hb b8
    have HU8 := hid (show StBox W8 R (.int .i64 c8) (.int .i64 n8) (.slice ta8 tn8 tc8) (.slice ba8 bn8 bc8) from by rw [hW8, ← hR]; exact StBox.new w7 _ _ _ _)
    have HB8 := hid (below_from HB6.out bb8)
    have HT8 := hid (HT6.out.later bb8)
    have HTS8 := hid (HTS6.out.later bb8)
    have HO8 := hid (hO.later b8)
    clear hO hb b8 bb8 c0 c1 c2 c3 a0 a1 a2 a3 a4 a5 a6 a7
    go_upto_region 14 with fail
    rw [← hW8]
    clear hW8
    obtain ⟨lu, bu, hU⟩ : ∃ lu bu, StIn W8 ta8 tn8 tc8 lu ba8 bn8 bc8 bu ∧ c8 = st'.c ∧ n8 = st'.n ∧ bareQ lu = st'.l ∧ bareB bu = st'.b := by
      rcases HO8.out with ⟨h0, _⟩ | ⟨_, l0, b0, h1, h2, h3, h4, h5, _⟩
      · exact absurd rfl h0
      · exact ⟨l0, b0, h1, h2, h3, h4, h5⟩
    have HU := hid hU
    clear hU
    go_wp2_with fail
    refine (KB.out W8 HB8.out).mono ?_
    rintro e w9 ⟨rfl, hb⟩
    have HB9 := hid (below_from HB8.out hb)
    have HT9 := hid (HT8.out.later hb)
    have HU9 := hid (HU8.out.later hb)
    have HTS9 := hid (HTS8.out.later hb)
    have HUS9 := hid (HU.out.1.later hb)
    have KC := CheckS_any w9 c' n' ta' tn' tc' lt ba' bn' bc' bt HTS9.out
    rw [HPL.out] at KC
    have HKC := hid KC
    obtain ⟨c0, c1, c2, c3⟩ := HT9.out.cells
    clear hb KC
    go_wp2_with fail
    refine HKC.out.mono ?_
    rintro e w10 ⟨rfl, hb⟩
    have HB10 := hid (below_from HB9.out hb)
    have KS := hid (SameStates_out w10 c' n' ta' tn' tc' lt ba' bn' bc' bt (HTS9.out.later hb) c8 n8 ta8 tn8 tc8 lu ba8 bn8 bc8 bu (HUS9.out.later hb) (HT.out.2.1.trans HU.out.2.1.symm) (HT.out.2.2.1.trans HU.out.2.2.1.symm) (HT.out.2.2.2.1.trans HU.out.2.2.2.1.symm) (HT.out.2.2.2.2.trans HU.out.2.2.2.2.symm))
    clear c0 c1 c2 c3
    obtain ⟨c0, c1, c2, c3⟩ := (HT9.out.later hb).cells
    obtain ⟨y0, y1, y2, y3⟩ := (HU9.out.later hb).cells
    clear hb
    go_wp2_with fail
    refine KS.out.mono ?_
    rintro e w11 ⟨rfl, hb⟩
    have HB11 := hid (below_from HB10.out hb)
    clear hb
    go_wp2
    go_ret
    exact ⟨rfl, HB11.out⟩
  by_cases k2 : kd = 2
  · subst k2
    obtain ⟨W5, hW5⟩ : ∃ W, W = ((((((W4.setCell ⟨P, 2, none⟩ (.int .i64 m)).setCell ⟨P, 3, none⟩ (.int .i64 0)).setCell ⟨P, 4, none⟩ (.int .i64 0)).setCell ⟨P, 5, none⟩ (.int .i64 0)).setCell ⟨P, 6, none⟩ (.slice none 0 0)).setCell ⟨P, 7, none⟩ (.slice (some ⟨P + 1, 0, none⟩) 1 1)) := ⟨_, rfl⟩
    have zb5 : AcBox W5 P (.int .i64 2) (.int .i64 nn) (.int .i64 m) (.int .i64 0) (.int .i64 0) (.int .i64 0) (.slice none 0 0) (.slice (some ⟨P + 1, 0, none⟩) 1 1) := by
      have e0 := HZ4.out
      have e1 := heap_setCell_same _ P 2 _ _ (.int .i64 m) e0
      have e2 := heap_setCell_same _ P 3 _ _ (.int .i64 0) e1
      have e3 := heap_setCell_same _ P 4 _ _ (.int .i64 0) e2
      have e4 := heap_setCell_same _ P 5 _ _ (.int .i64 0) e3
      have e5 := heap_setCell_same _ P 6 _ _ (.slice none 0 0) e4
      have e6 := heap_setCell_same _ P 7 _ _ (.slice (some ⟨P + 1, 0, none⟩) 1 1) e5
      rw [hW5]
      exact e6
    have bs5 : Below P W3 W5 := by
      have hP' := HBB.out
      rw [hP] at hP'
      rw [hW5]
      exact ((((((hP').setCell (p := ⟨P, 2, none⟩) (Nat.le_refl P) _).setCell (p := ⟨P, 3, none⟩) (Nat.le_refl P) _).setCell (p := ⟨P, 4, none⟩) (Nat.le_refl P) _).setCell (p := ⟨P, 5, none⟩) (Nat.le_refl P) _).setCell (p := ⟨P, 6, none⟩) (Nat.le_refl P) _).setCell (p := ⟨P, 7, none⟩) (Nat.le_refl P) _
    have sz5 : W5.heap.size = P + 1 := by rw [hW5]; simp [World.setCell]; exact z4
    obtain ⟨W6, hW6⟩ : ∃ W, W = W5.alloc (.cells #[.int .i64 m, .int .i64 0] 55) := ⟨_, rfl⟩
    have b56 : Below W5.heap.size W5 W6 := by rw [hW6]; exact (Below.refl _ _).alloc (Nat.le_refl _) _
    have r6 : W6.heap[P + 1]? = some (.cells #[.int .i64 m, .int .i64 0] 55 (0, 0)) := by rw [hW6, ← sz5]; exact heap_alloc_new W5 _
    have rn6 : RunsIn W6 (some ⟨P + 1, 0, none⟩) 1 1 [(m, 0)] := ⟨rfl, Nat.le_refl _, by omega, by omega, fun _ => ⟨P + 1, 0, rfl, fun i hi => by
      obtain rfl : i = 0 := by omega
      exact ⟨by rw [cell_of_row W6 (P + 1) _ _ _ _ r6]; rfl, by rw [cell_of_row W6 (P + 1) _ _ _ _ r6]; rfl⟩⟩⟩
    have zb6 : AcBox W6 P (.int .i64 2) (.int .i64 nn) (.int .i64 m) (.int .i64 0) (.int .i64 0) (.int .i64 0) (.slice none 0 0) (.slice (some ⟨P + 1, 0, none⟩) 1 1) := (b56.block P (by omega)).trans zb5
    have bs6 : Below P W3 W6 := bs5.trans (b56.mono (by omega))
    have bs6' : Below W3.heap.size W3 W6 := by rw [hP]; exact bs6
    have HB6 := hid (below_from HB3.out bs6')
    have HX6 := hid (HX3.out.later bs6')
    have HT6 := hid (HT3.out.later bs6')
    have HTS6 := hid (HT.out.1.later bs6')
    obtain ⟨Y, hY⟩ : ∃ Y : Ac, Y = ⟨2, nn, ⟨m, 0, 0, 0, none, 0, 0, []⟩, some ⟨P + 1, 0, none⟩, 1, 1, [(m, 0)]⟩ := ⟨_, rfl⟩
    have hYin : AcIn W6 Y := by rw [hY]; exact ⟨runs_none _, rn6⟩
    have hYn : Y.cn ≤ 1048576 := by rw [hY]; show 1 ≤ _; omega
    have K2 := Do_any W6 c n ta tn tc l ba bn bc b (HST.out.later HB6.out) Y hYin hYn
    have hnm := do_named (s := ⟨c, n, l, b⟩) (x := ⟨2, nn, ⟨q, f, u, rk, pa, pn, pc, ps⟩, ca, cn, cc, cs⟩) (y := Y) (by rw [hY]) (by rw [hY]; intro e; exact absurd e (show ¬ ((2 : Int) = 1) by decide)) (by rw [hY]; intro _; rfl) (by rw [hY]; intro e; exact absurd e (show ¬ ((2 : Int) = 4) by decide))
    have hnm' := do_named (s := ⟨c, n, bareQ l, bareB b⟩) (x := Ac.bare ⟨2, nn, ⟨q, f, u, rk, pa, pn, pc, ps⟩, ca, cn, cc, cs⟩) (y := Y.bare) (by rw [hY]; rfl) (by rw [hY]; intro e; exact absurd e (show ¬ ((2 : Int) = 1) by decide)) (by rw [hY]; intro _; rfl) (by rw [hY]; intro e; exact absurd e (show ¬ ((2 : Int) = 4) by decide))
    have d1 : doE ⟨c, n, l, b⟩ Y = 0 := by
      rcases hnm with h1 | h1
      · rw [h1.1]; exact HE.out
      · exact absurd rfl h1.2.1
    have d2 : doS ⟨c, n, bareQ l, bareB b⟩ Y.bare = st' := by
      rcases hnm' with h1 | h1
      · rw [h1.2]; exact HSS.out
      · exact absurd rfl h1.2.1
    rw [d1, d2, hY] at K2
    have HK2 := hid K2
    have HWW := hid (show (((((((W4.setCell ⟨P, 2, none⟩ (.int .i64 m)).setCell ⟨P, 3, none⟩ (.int .i64 0)).setCell ⟨P, 4, none⟩ (.int .i64 0)).setCell ⟨P, 5, none⟩ (.int .i64 0)).setCell ⟨P, 6, none⟩ (.slice none 0 0)).setCell ⟨P, 7, none⟩ (.slice (some ⟨P + 1, 0, none⟩) 1 1)).alloc (.cells #[.int .i64 m, .int .i64 0] 55)) = W6 by rw [hW6, hW5])
    have HZ6 := hid zb6
    clear hnm hnm' d1 d2 K2 hYin hYn hY zb5 bs5 sz5 b56 zb6 bs6 bs6' hW5 hW6 r6 rn6
    go_upto_region 13 with fail
    rw [HWW.out]
    clear HWW a0 a1 a2 a3 a4 a5 a6 a7 z0 z1 z2 z3 z5 z6 z7 z8 zf
    obtain ⟨c0, c1, c2, c3⟩ := HX6.out.cells
    obtain ⟨a0, a1, a2, a3, a4, a5, a6, a7⟩ := HZ6.out.cells
    go_wp2_with fail
    refine HK2.out.mono ?_
    rintro e w7 ⟨c8, n8, ta8, tn8, tc8, ba8, bn8, bc8, rfl, hO, hb⟩
    obtain ⟨R, hR⟩ : ∃ R, w7.heap.size = R := ⟨_, rfl⟩
    obtain ⟨W8, hW8⟩ : ∃ W, W = w7.alloc (.cells #[.int .i64 c8, .int .i64 n8, .slice ta8 tn8 tc8, .slice ba8 bn8 bc8] 40) := ⟨_, rfl⟩
    have b8 : Below w7.heap.size w7 W8 := by rw [hW8]; exact (Below.refl _ _).alloc (Nat.le_refl _) _
    have bb8 := below_from hb b8
    have HU8 := hid (show StBox W8 R (.int .i64 c8) (.int .i64 n8) (.slice ta8 tn8 tc8) (.slice ba8 bn8 bc8) from by rw [hW8, ← hR]; exact StBox.new w7 _ _ _ _)
    have HB8 := hid (below_from HB6.out bb8)
    have HT8 := hid (HT6.out.later bb8)
    have HTS8 := hid (HTS6.out.later bb8)
    have HO8 := hid (hO.later b8)
    clear hO hb b8 bb8 c0 c1 c2 c3 a0 a1 a2 a3 a4 a5 a6 a7
    go_upto_region 14 with fail
    rw [← hW8]
    clear hW8
    obtain ⟨lu, bu, hU⟩ : ∃ lu bu, StIn W8 ta8 tn8 tc8 lu ba8 bn8 bc8 bu ∧ c8 = st'.c ∧ n8 = st'.n ∧ bareQ lu = st'.l ∧ bareB bu = st'.b := by
      rcases HO8.out with ⟨h0, _⟩ | ⟨_, l0, b0, h1, h2, h3, h4, h5, _⟩
      · exact absurd rfl h0
      · exact ⟨l0, b0, h1, h2, h3, h4, h5⟩
    have HU := hid hU
    clear hU
    go_wp2_with fail
    refine (KB.out W8 HB8.out).mono ?_
    rintro e w9 ⟨rfl, hb⟩
    have HB9 := hid (below_from HB8.out hb)
    have HT9 := hid (HT8.out.later hb)
    have HU9 := hid (HU8.out.later hb)
    have HTS9 := hid (HTS8.out.later hb)
    have HUS9 := hid (HU.out.1.later hb)
    have KC := CheckS_any w9 c' n' ta' tn' tc' lt ba' bn' bc' bt HTS9.out
    rw [HPL.out] at KC
    have HKC := hid KC
    obtain ⟨c0, c1, c2, c3⟩ := HT9.out.cells
    clear hb KC
    go_wp2_with fail
    refine HKC.out.mono ?_
    rintro e w10 ⟨rfl, hb⟩
    have HB10 := hid (below_from HB9.out hb)
    have KS := hid (SameStates_out w10 c' n' ta' tn' tc' lt ba' bn' bc' bt (HTS9.out.later hb) c8 n8 ta8 tn8 tc8 lu ba8 bn8 bc8 bu (HUS9.out.later hb) (HT.out.2.1.trans HU.out.2.1.symm) (HT.out.2.2.1.trans HU.out.2.2.1.symm) (HT.out.2.2.2.1.trans HU.out.2.2.2.1.symm) (HT.out.2.2.2.2.trans HU.out.2.2.2.2.symm))
    clear c0 c1 c2 c3
    obtain ⟨c0, c1, c2, c3⟩ := (HT9.out.later hb).cells
    obtain ⟨y0, y1, y2, y3⟩ := (HU9.out.later hb).cells
    clear hb
    go_wp2_with fail
    refine KS.out.mono ?_
    rintro e w11 ⟨rfl, hb⟩
    have HB11 := hid (below_from HB10.out hb)
    clear hb
    go_wp2
    go_ret
    exact ⟨rfl, HB11.out⟩
  by_cases k3 : kd = 3
  · subst k3
    obtain ⟨W5, hW5⟩ : ∃ W, W = ((((((W4.setCell ⟨P, 2, none⟩ (.int .i64 m)).setCell ⟨P, 3, none⟩ (.int .i64 0)).setCell ⟨P, 4, none⟩ (.int .i64 0)).setCell ⟨P, 5, none⟩ (.int .i64 0)).setCell ⟨P, 6, none⟩ (.slice none 0 0)).setCell ⟨P, 7, none⟩ (.slice (some ⟨P + 1, 0, none⟩) 1 1)) := ⟨_, rfl⟩
    have zb5 : AcBox W5 P (.int .i64 3) (.int .i64 nn) (.int .i64 m) (.int .i64 0) (.int .i64 0) (.int .i64 0) (.slice none 0 0) (.slice (some ⟨P + 1, 0, none⟩) 1 1) := by
      have e0 := HZ4.out
      have e1 := heap_setCell_same _ P 2 _ _ (.int .i64 m) e0
      have e2 := heap_setCell_same _ P 3 _ _ (.int .i64 0) e1
      have e3 := heap_setCell_same _ P 4 _ _ (.int .i64 0) e2
      have e4 := heap_setCell_same _ P 5 _ _ (.int .i64 0) e3
      have e5 := heap_setCell_same _ P 6 _ _ (.slice none 0 0) e4
      have e6 := heap_setCell_same _ P 7 _ _ (.slice (some ⟨P + 1, 0, none⟩) 1 1) e5
      rw [hW5]
      exact e6
    have bs5 : Below P W3 W5 := by
      have hP' := HBB.out
      rw [hP] at hP'
      rw [hW5]
      exact ((((((hP').setCell (p := ⟨P, 2, none⟩) (Nat.le_refl P) _).setCell (p := ⟨P, 3, none⟩) (Nat.le_refl P) _).setCell (p := ⟨P, 4, none⟩) (Nat.le_refl P) _).setCell (p := ⟨P, 5, none⟩) (Nat.le_refl P) _).setCell (p := ⟨P, 6, none⟩) (Nat.le_refl P) _).setCell (p := ⟨P, 7, none⟩) (Nat.le_refl P) _
    have sz5 : W5.heap.size = P + 1 := by rw [hW5]; simp [World.setCell]; exact z4
    obtain ⟨W6, hW6⟩ : ∃ W, W = W5.alloc (.cells #[.int .i64 m, .int .i64 0] 55) := ⟨_, rfl⟩
    have b56 : Below W5.heap.size W5 W6 := by rw [hW6]; exact (Below.refl _ _).alloc (Nat.le_refl _) _
    have r6 : W6.heap[P + 1]? = some (.cells #[.int .i64 m, .int .i64 0] 55 (0, 0)) := by rw [hW6, ← sz5]; exact heap_alloc_new W5 _
    have rn6 : RunsIn W6 (some ⟨P + 1, 0, none⟩) 1 1 [(m, 0)] := ⟨rfl, Nat.le_refl _, by omega, by omega, fun _ => ⟨P + 1, 0, rfl, fun i hi => by
      obtain rfl : i = 0 := by omega
      exact ⟨by rw [cell_of_row W6 (P + 1) _ _ _ _ r6]; rfl, by rw [cell_of_row W6 (P + 1) _ _ _ _ r6]; rfl⟩⟩⟩
    have zb6 : AcBox W6 P (.int .i64 3) (.int .i64 nn) (.int .i64 m) (.int .i64 0) (.int .i64 0) (.int .i64 0) (.slice none 0 0) (.slice (some ⟨P + 1, 0, none⟩) 1 1) := (b56.block P (by omega)).trans zb5
    have bs6 : Below P W3 W6 := bs5.trans (b56.mono (by omega))
    have bs6' : Below W3.heap.size W3 W6 := by rw [hP]; exact bs6
    have HB6 := hid (below_from HB3.out bs6')
    have HX6 := hid (HX3.out.later bs6')
    have HT6 := hid (HT3.out.later bs6')
    have HTS6 := hid (HT.out.1.later bs6')
    obtain ⟨Y, hY⟩ : ∃ Y : Ac, Y = ⟨3, nn, ⟨m, 0, 0, 0, none, 0, 0, []⟩, some ⟨P + 1, 0, none⟩, 1, 1, [(m, 0)]⟩ := ⟨_, rfl⟩
    have hYin : AcIn W6 Y := by rw [hY]; exact ⟨runs_none _, rn6⟩
    have hYn : Y.cn ≤ 1048576 := by rw [hY]; show 1 ≤ _; omega
    have K2 := Do_any W6 c n ta tn tc l ba bn bc b (HST.out.later HB6.out) Y hYin hYn
    have hnm := do_named (s := ⟨c, n, l, b⟩) (x := ⟨3, nn, ⟨q, f, u, rk, pa, pn, pc, ps⟩, ca, cn, cc, cs⟩) (y := Y) (by rw [hY]) (by rw [hY]; intro e; exact absurd e (show ¬ ((3 : Int) = 1) by decide)) (by rw [hY]; intro _; rfl) (by rw [hY]; intro e; exact absurd e (show ¬ ((3 : Int) = 4) by decide))
    have hnm' := do_named (s := ⟨c, n, bareQ l, bareB b⟩) (x := Ac.bare ⟨3, nn, ⟨q, f, u, rk, pa, pn, pc, ps⟩, ca, cn, cc, cs⟩) (y := Y.bare) (by rw [hY]; rfl) (by rw [hY]; intro e; exact absurd e (show ¬ ((3 : Int) = 1) by decide)) (by rw [hY]; intro _; rfl) (by rw [hY]; intro e; exact absurd e (show ¬ ((3 : Int) = 4) by decide))
    have d1 : doE ⟨c, n, l, b⟩ Y = 0 := by
      rcases hnm with h1 | h1
      · rw [h1.1]; exact HE.out
      · exact absurd rfl h1.2.2.1
    have d2 : doS ⟨c, n, bareQ l, bareB b⟩ Y.bare = st' := by
      rcases hnm' with h1 | h1
      · rw [h1.2]; exact HSS.out
      · exact absurd rfl h1.2.2.1
    rw [d1, d2, hY] at K2
    have HK2 := hid K2
    have HWW := hid (show (((((((W4.setCell ⟨P, 2, none⟩ (.int .i64 m)).setCell ⟨P, 3, none⟩ (.int .i64 0)).setCell ⟨P, 4, none⟩ (.int .i64 0)).setCell ⟨P, 5, none⟩ (.int .i64 0)).setCell ⟨P, 6, none⟩ (.slice none 0 0)).setCell ⟨P, 7, none⟩ (.slice (some ⟨P + 1, 0, none⟩) 1 1)).alloc (.cells #[.int .i64 m, .int .i64 0] 55)) = W6 by rw [hW6, hW5])
    have HZ6 := hid zb6
    clear hnm hnm' d1 d2 K2 hYin hYn hY zb5 bs5 sz5 b56 zb6 bs6 bs6' hW5 hW6 r6 rn6
    go_upto_region 13 with fail
    rw [HWW.out]
    clear HWW a0 a1 a2 a3 a4 a5 a6 a7 z0 z1 z2 z3 z5 z6 z7 z8 zf
    obtain ⟨c0, c1, c2, c3⟩ := HX6.out.cells
    obtain ⟨a0, a1, a2, a3, a4, a5, a6, a7⟩ := HZ6.out.cells
    go_wp2_with fail
    refine HK2.out.mono ?_
    rintro e w7 ⟨c8, n8, ta8, tn8, tc8, ba8, bn8, bc8, rfl, hO, hb⟩
    obtain ⟨R, hR⟩ : ∃ R, w7.heap.size = R := ⟨_, rfl⟩
    obtain ⟨W8, hW8⟩ : ∃ W, W = w7.alloc (.cells #[.int .i64 c8, .int .i64 n8, .slice ta8 tn8 tc8, .slice ba8 bn8 bc8] 40) := ⟨_, rfl⟩
    have b8 : Below w7.heap.size w7 W8 := by rw [hW8]; exact (Below.refl _ _).alloc (Nat.le_refl _) _
    have bb8 := below_from hb b8
    have HU8 := hid (show StBox W8 R (.int .i64 c8) (.int .i64 n8) (.slice ta8 tn8 tc8) (.slice ba8 bn8 bc8) from by rw [hW8, ← hR]; exact StBox.new w7 _ _ _ _)
    have HB8 := hid (below_from HB6.out bb8)
    have HT8 := hid (HT6.out.later bb8)
    have HTS8 := hid (HTS6.out.later bb8)
    have HO8 := hid (hO.later b8)
    clear hO hb b8 bb8 c0 c1 c2 c3 a0 a1 a2 a3 a4 a5 a6 a7
    go_upto_region 14 with fail
    rw [← hW8]
    clear hW8
    obtain ⟨lu, bu, hU⟩ : ∃ lu bu, StIn W8 ta8 tn8 tc8 lu ba8 bn8 bc8 bu ∧ c8 = st'.c ∧ n8 = st'.n ∧ bareQ lu = st'.l ∧ bareB bu = st'.b := by
      rcases HO8.out with ⟨h0, _⟩ | ⟨_, l0, b0, h1, h2, h3, h4, h5, _⟩
      · exact absurd rfl h0
      · exact ⟨l0, b0, h1, h2, h3, h4, h5⟩
    have HU := hid hU
    clear hU
    go_wp2_with fail
    refine (KB.out W8 HB8.out).mono ?_
    rintro e w9 ⟨rfl, hb⟩
    have HB9 := hid (below_from HB8.out hb)
    have HT9 := hid (HT8.out.later hb)
    have HU9 := hid (HU8.out.later hb)
    have HTS9 := hid (HTS8.out.later hb)
    have HUS9 := hid (HU.out.1.later hb)
    have KC := CheckS_any w9 c' n' ta' tn' tc' lt ba' bn' bc' bt HTS9.out
    rw [HPL.out] at KC
    have HKC := hid KC
    obtain ⟨c0, c1, c2, c3⟩ := HT9.out.cells
    clear hb KC
    go_wp2_with fail
    refine HKC.out.mono ?_
    rintro e w10 ⟨rfl, hb⟩
    have HB10 := hid (below_from HB9.out hb)
    have KS := hid (SameStates_out w10 c' n' ta' tn' tc' lt ba' bn' bc' bt (HTS9.out.later hb) c8 n8 ta8 tn8 tc8 lu ba8 bn8 bc8 bu (HUS9.out.later hb) (HT.out.2.1.trans HU.out.2.1.symm) (HT.out.2.2.1.trans HU.out.2.2.1.symm) (HT.out.2.2.2.1.trans HU.out.2.2.2.1.symm) (HT.out.2.2.2.2.trans HU.out.2.2.2.2.symm))
    clear c0 c1 c2 c3
    obtain ⟨c0, c1, c2, c3⟩ := (HT9.out.later hb).cells
    obtain ⟨y0, y1, y2, y3⟩ := (HU9.out.later hb).cells
    clear hb
    go_wp2_with fail
    refine KS.out.mono ?_
    rintro e w11 ⟨rfl, hb⟩
    have HB11 := hid (below_from HB10.out hb)
    clear hb
    go_wp2
    go_ret
    exact ⟨rfl, HB11.out⟩
  by_cases k4 : kd = 4
  · subst k4
    obtain ⟨W5, hW5⟩ : ∃ W, W = (((((W4.setCell ⟨P, 2, none⟩ (.int .i64 m)).setCell ⟨P, 3, none⟩ (.int .i64 0)).setCell ⟨P, 4, none⟩ (.int .i64 0)).setCell ⟨P, 5, none⟩ (.int .i64 0)).setCell ⟨P, 6, none⟩ (.slice none 0 0)) := ⟨_, rfl⟩
    have zb5 : AcBox W5 P (.int .i64 4) (.int .i64 nn) (.int .i64 m) (.int .i64 0) (.int .i64 0) (.int .i64 0) (.slice none 0 0) (.slice ca cn cc) := by
      have e0 := HZ4.out
      have e1 := heap_setCell_same _ P 2 _ _ (.int .i64 m) e0
      have e2 := heap_setCell_same _ P 3 _ _ (.int .i64 0) e1
      have e3 := heap_setCell_same _ P 4 _ _ (.int .i64 0) e2
      have e4 := heap_setCell_same _ P 5 _ _ (.int .i64 0) e3
      have e5 := heap_setCell_same _ P 6 _ _ (.slice none 0 0) e4
      rw [hW5]
      exact e5
    have bs5 : Below P W3 W5 := by
      have hP' := HBB.out
      rw [hP] at hP'
      rw [hW5]
      exact (((((hP').setCell (p := ⟨P, 2, none⟩) (Nat.le_refl P) _).setCell (p := ⟨P, 3, none⟩) (Nat.le_refl P) _).setCell (p := ⟨P, 4, none⟩) (Nat.le_refl P) _).setCell (p := ⟨P, 5, none⟩) (Nat.le_refl P) _).setCell (p := ⟨P, 6, none⟩) (Nat.le_refl P) _
    have sz5 : W5.heap.size = P + 1 := by rw [hW5]; simp [World.setCell]; exact z4
    obtain ⟨W6, hW6⟩ : ∃ W, W = W5 := ⟨_, rfl⟩
    have b56 : Below W5.heap.size W5 W6 := by rw [hW6]; exact Below.refl _ _
    have zb6 : AcBox W6 P (.int .i64 4) (.int .i64 nn) (.int .i64 m) (.int .i64 0) (.int .i64 0) (.int .i64 0) (.slice none 0 0) (.slice ca cn cc) := (b56.block P (by omega)).trans zb5
    have bs6 : Below P W3 W6 := bs5.trans (b56.mono (by omega))
    have bs6' : Below W3.heap.size W3 W6 := by rw [hP]; exact bs6
    have HB6 := hid (below_from HB3.out bs6')
    have HX6 := hid (HX3.out.later bs6')
    have HT6 := hid (HT3.out.later bs6')
    have HTS6 := hid (HT.out.1.later bs6')
    obtain ⟨Y, hY⟩ : ∃ Y : Ac, Y = ⟨4, nn, ⟨m, 0, 0, 0, none, 0, 0, []⟩, ca, cn, cc, cs⟩ := ⟨_, rfl⟩
    have hYin : AcIn W6 Y := by rw [hY]; exact ⟨runs_none _, (HAX.out.later HB6.out).2⟩
    have hYn : Y.cn ≤ 1048576 := by rw [hY]; exact hcn
    have K2 := Do_any W6 c n ta tn tc l ba bn bc b (HST.out.later HB6.out) Y hYin hYn
    have hnm := do_named (s := ⟨c, n, l, b⟩) (x := ⟨4, nn, ⟨q, f, u, rk, pa, pn, pc, ps⟩, ca, cn, cc, cs⟩) (y := Y) (by rw [hY]) (by rw [hY]; intro e; exact absurd e (show ¬ ((4 : Int) = 1) by decide)) (by rw [hY]; intro _; rfl) (by rw [hY]; intro _; rfl)
    have hnm' := do_named (s := ⟨c, n, bareQ l, bareB b⟩) (x := Ac.bare ⟨4, nn, ⟨q, f, u, rk, pa, pn, pc, ps⟩, ca, cn, cc, cs⟩) (y := Y.bare) (by rw [hY]; rfl) (by rw [hY]; intro e; exact absurd e (show ¬ ((4 : Int) = 1) by decide)) (by rw [hY]; intro _; rfl) (by rw [hY]; intro _; rfl)
    have d1 : doE ⟨c, n, l, b⟩ Y = 0 := by
      rcases hnm with h1 | h1
      · rw [h1.1]; exact HE.out
      · exact absurd rfl h1.2.2.2
    have d2 : doS ⟨c, n, bareQ l, bareB b⟩ Y.bare = st' := by
      rcases hnm' with h1 | h1
      · rw [h1.2]; exact HSS.out
      · exact absurd rfl h1.2.2.2
    rw [d1, d2, hY] at K2
    have HK2 := hid K2
    have HWW := hid (show (((((W4.setCell ⟨P, 2, none⟩ (.int .i64 m)).setCell ⟨P, 3, none⟩ (.int .i64 0)).setCell ⟨P, 4, none⟩ (.int .i64 0)).setCell ⟨P, 5, none⟩ (.int .i64 0)).setCell ⟨P, 6, none⟩ (.slice none 0 0)) = W6 by rw [hW6, hW5])
    have HZ6 := hid zb6
    clear hnm hnm' d1 d2 K2 hYin hYn hY zb5 bs5 sz5 b56 zb6 bs6 bs6' hW5 hW6
    go_upto_region 13 with fail
    rw [HWW.out]
    clear HWW a0 a1 a2 a3 a4 a5 a6 a7 z0 z1 z2 z3 z5 z6 z7 z8 zf
    obtain ⟨c0, c1, c2, c3⟩ := HX6.out.cells
    obtain ⟨a0, a1, a2, a3, a4, a5, a6, a7⟩ := HZ6.out.cells
    go_wp2_with fail
    refine HK2.out.mono ?_
    rintro e w7 ⟨c8, n8, ta8, tn8, tc8, ba8, bn8, bc8, rfl, hO, hb⟩
    obtain ⟨R, hR⟩ : ∃ R, w7.heap.size = R := ⟨_, rfl⟩
    obtain ⟨W8, hW8⟩ : ∃ W, W = w7.alloc (.cells #[.int .i64 c8, .int .i64 n8, .slice ta8 tn8 tc8, .slice ba8 bn8 bc8] 40) := ⟨_, rfl⟩
    have b8 : Below w7.heap.size w7 W8 := by rw [hW8]; exact (Below.refl _ _).alloc (Nat.le_refl _) _
    have bb8 := below_from hb b8
    have HU8 := hid (show StBox W8 R (.int .i64 c8) (.int .i64 n8) (.slice ta8 tn8 tc8) (.slice ba8 bn8 bc8) from by rw [hW8, ← hR]; exact StBox.new w7 _ _ _ _)
    have HB8 := hid (below_from HB6.out bb8)
    have HT8 := hid (HT6.out.later bb8)
    have HTS8 := hid (HTS6.out.later bb8)
    have HO8 := hid (hO.later b8)
    clear hO hb b8 bb8 c0 c1 c2 c3 a0 a1 a2 a3 a4 a5 a6 a7
    go_upto_region 14 with fail
    rw [← hW8]
    clear hW8
    obtain ⟨lu, bu, hU⟩ : ∃ lu bu, StIn W8 ta8 tn8 tc8 lu ba8 bn8 bc8 bu ∧ c8 = st'.c ∧ n8 = st'.n ∧ bareQ lu = st'.l ∧ bareB bu = st'.b := by
      rcases HO8.out with ⟨h0, _⟩ | ⟨_, l0, b0, h1, h2, h3, h4, h5, _⟩
      · exact absurd rfl h0
      · exact ⟨l0, b0, h1, h2, h3, h4, h5⟩
    have HU := hid hU
    clear hU
    go_wp2_with fail
    refine (KB.out W8 HB8.out).mono ?_
    rintro e w9 ⟨rfl, hb⟩
    have HB9 := hid (below_from HB8.out hb)
    have HT9 := hid (HT8.out.later hb)
    have HU9 := hid (HU8.out.later hb)
    have HTS9 := hid (HTS8.out.later hb)
    have HUS9 := hid (HU.out.1.later hb)
    have KC := CheckS_any w9 c' n' ta' tn' tc' lt ba' bn' bc' bt HTS9.out
    rw [HPL.out] at KC
    have HKC := hid KC
    obtain ⟨c0, c1, c2, c3⟩ := HT9.out.cells
    clear hb KC
    go_wp2_with fail
    refine HKC.out.mono ?_
    rintro e w10 ⟨rfl, hb⟩
    have HB10 := hid (below_from HB9.out hb)
    have KS := hid (SameStates_out w10 c' n' ta' tn' tc' lt ba' bn' bc' bt (HTS9.out.later hb) c8 n8 ta8 tn8 tc8 lu ba8 bn8 bc8 bu (HUS9.out.later hb) (HT.out.2.1.trans HU.out.2.1.symm) (HT.out.2.2.1.trans HU.out.2.2.1.symm) (HT.out.2.2.2.1.trans HU.out.2.2.2.1.symm) (HT.out.2.2.2.2.trans HU.out.2.2.2.2.symm))
    clear c0 c1 c2 c3
    obtain ⟨c0, c1, c2, c3⟩ := (HT9.out.later hb).cells
    obtain ⟨y0, y1, y2, y3⟩ := (HU9.out.later hb).cells
    clear hb
    go_wp2_with fail
    refine KS.out.mono ?_
    rintro e w11 ⟨rfl, hb⟩
    have HB11 := hid (below_from HB10.out hb)
    clear hb
    go_wp2
    go_ret
    exact ⟨rfl, HB11.out⟩
  exfalso
  have h1 := HE.out
  unfold doE at h1
  simp only [if_neg k1, if_neg k2, if_neg k3, if_neg k4] at h1
  omega
end Go.Proofs.YtckpdfkobdgjeaaGreatDoor
namespace Go.Proofs.YtckpdfkobdgjeaaGreatDoor
open Go.ChangeShapes Go.WideShapes Go.ChangeAt Go.RowKit
theorem bulk_one {H : Type} (d : DataW H) : 1 ≤ Rows.uptoBulk d := by
  cases d with
  | lit l => cases l <;> simp [Rows.uptoBulk]
  | nil => simp [Rows.uptoBulk]
  | ptr d => simp [Rows.uptoBulk]
  | slice elems spare => simp [Rows.uptoBulk]
  | agg parts => simp [Rows.uptoBulk]
  | iface t d => simp [Rows.uptoBulk]
  | map entries => simp [Rows.uptoBulk]
  | held h => simp [Rows.uptoBulk]
theorem bulk_len {H : Type} (l : List (DataW H)) : l.length ≤ Rows.uptoBulkAll l := by
  induction l with
  | nil => simp [Rows.uptoBulkAll]
  | cons x r ih => have := bulk_one x; simp only [Rows.uptoBulkAll, List.length_cons]; omega
theorem bulk_slice {H : Type} {enc : TypeId × Value → H} {W : World} {base : Nat} {spare : Nat → Bool} {held : Bool} {t e : TypeId} {a : Option Addr} {len cap : Nat} {d : DataW H} {p : List MemPlace}
    (ht : Tryz.prog.underlying t = some (.slice e)) (h : DataW.Trod enc Tryz.prog W base spare held t (.slice a len cap) d p) : len ≤ Rows.uptoBulk d := by
  obtain ⟨fuel, hf⟩ := h
  rcases DataW.trod_slice ht hf with ⟨h1, h2⟩ | ⟨ad, len', cap', elems, rest, n, _, h1, h2, _, _, _, h3, _⟩
  · simp [Value.cells] at h1
    omega
  · simp [Value.cells] at h1
    obtain ⟨_, rfl, _⟩ := h1
    have e1 : d = .slice (elems.map (·.1)) (rest.map (·.1)) := congrArg Prod.fst h2
    have e2 := bulk_len (elems.map (·.1))
    rw [List.length_map, h3] at e2
    rw [e1]
    simp only [Rows.uptoBulk]
    omega
theorem bulk_bound {H : Type} {l : List (DataW H)} (hk : Rows.uptoSmall H l = true) : Rows.uptoBulkAll l ≤ 1048576 := of_decide_eq_true hk
end Go.Proofs.YtckpdfkobdgjeaaGreatDoor
