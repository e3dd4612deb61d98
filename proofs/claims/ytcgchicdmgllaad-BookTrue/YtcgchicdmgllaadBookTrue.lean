/- BookTrue: whatever state and request it is handed, the call returns true, and its arguments read afterwards as they read before. -/
import Derived.Test.YtcgchicdmgllaadSame
import Derived.Test.YtcgchicdmgllaadBookN
import Derived.Test.YtcgchicdmgllaadFrameS
import Derived.Deep.DeepCutAuto
namespace Go.Proofs.Ytcgchicdmgllaad
open Go.ChangeShapes Go.WideShapes Go.ChangeAt Go.RowKit

set_option maxRecDepth 100000 in
set_option maxHeartbeats 8000000 in
theorem BookTrue_walk (w : World) (c n : Int) (ta : Option Addr) (tn tc : Nat) (l : QL) (ba : Option Addr) (bn bc : Nat) (b : BL) (h : StIn w ta tn tc l ba bn bc b) (r : Rq) (hr : RqIn w r) :
    Calls Try.prog 4 #[.agg #[.int .i64 c, .int .i64 n, .slice ta tn tc, .slice ba bn bc], .agg #[.int .i64 r.queue, .int .i64 r.fr, .int .i64 r.un, .int .i64 r.kind, .slice r.pa r.pn r.pc]] w fun e w' => e = .returned (.bool true) ∧ Below w.heap.size w w' := by
  obtain ⟨S, hS⟩ : ∃ S, w.heap.size = S := ⟨_, rfl⟩
  obtain ⟨W1, hW1⟩ : ∃ W1, W1 = (w.alloc (.cells #[.int .i64 c, .int .i64 n, .slice ta tn tc, .slice ba bn bc] 25)).alloc (.cells #[.int .i64 r.queue, .int .i64 r.fr, .int .i64 r.un, .int .i64 r.kind, .slice r.pa r.pn r.pc] 37) := ⟨_, rfl⟩
  obtain ⟨x1, x2, hb0, _⟩ := two_boxes w _ _ _ _ r hW1
  rw [hS] at x1 x2
  have HST := hid h
  have HRQ := hid hr
  have HX1 := hid x1
  have HX2 := hid x2
  have HB0 := hid hb0
  have HW1 := hid hW1
  obtain ⟨c0, c1, c2, c3⟩ := x1.cells
  obtain ⟨d0, d1, d2, d3, d4⟩ := x2.cells
  clear hW1 x1 x2
  by_cases hE : subE c n l b r = 0
  · have KS := Submit_ok W1 c n ta tn tc l ba bn bc b (h.later hb0) r (RqIn.later hr hb0) hE
    have HK := hid KS
    have HE := hid hE
    obtain ⟨hsk, hb12, hn1, _⟩ := sub_ok hE
    have hn0 := (sound_of (seek_ok hsk).1).n0
    have hbl := h.2.len
    have hb12' : bn < 12 := by omega
    have hble := h.2.le
    have hbcb := h.2.capb
    have HBL := hid hbl
    clear KS hE hb0 h hr hsk hb12 hbl
    go_enter Try.func4, Try.ntmps4
    go_wp2_with fail
    rw [← HW1.out]
    refine HK.out.mono ?_
    rintro e w1 ⟨g, k1, l', g9, k9, b9, rfl, hSt, hbq, hbb, hb⟩
    have HB1 := hid (below_from HB0.out hb)
    obtain ⟨f1, f2, f3, f5, f6, f7⟩ := booked_facts HE.out hbq hbb
    rw [← HBL.out] at f2 f3 f5 f6 f7
    obtain ⟨A, hA⟩ : ∃ A, w1.heap.size = A := ⟨_, rfl⟩
    obtain ⟨U, hU⟩ : ∃ U, U = w1.alloc (.cells #[.int .i64 c, .int .i64 (n + 1), .slice (some ⟨g, 0, none⟩) tn k1, .slice (some ⟨g9, 0, none⟩) (bn + 1) k9] 25) := ⟨_, rfl⟩
    have hbU : Below w1.heap.size w1 U := by rw [hU]; exact (Below.refl _ _).alloc (Nat.le_refl _) _
    have HA : Hid (StBox U A (.int .i64 c) (.int .i64 (n + 1)) (.slice (some ⟨g, 0, none⟩) tn k1) (.slice (some ⟨g9, 0, none⟩) (bn + 1) k9)) := hid (by rw [hU, ← hA]; exact StBox.new w1 _ _ _ _)
    have HBU := hid (below_from HB1.out hbU)
    have HSU := hid (hSt.later hbU)
    have HU := hid hU
    have HY1 := hid ((HX1.out.later hb).later hbU)
    have HY2 := hid ((HX2.out.later hb).later hbU)
    have hk9 : bn + 1 ≤ k9 := hSt.2.le
    have hk9b : k9 ≤ 9223372036854775807 := hSt.2.capb
    have KP := CheckS_any U c (n + 1) _ tn k1 l' _ (bn + 1) k9 b9 HSU.out
    rw [f1] at KP
    have HKP := hid KP
    have F1 := hid f1
    have F2 := hid f2
    have F3 := hid f3
    have F5 := hid f5
    have F6 := hid f6
    have F7 := hid f7
    have HBQ := hid hbq
    clear KP f1 f2 f3 f5 f6 f7 hbq hbb hSt hb hbU hU c0 c1 c2 c3 d0 d1 d2 d3 d4
    obtain ⟨a0, a1, a2, a3⟩ := HA.out.cells
    obtain ⟨c0, c1, c2, c3⟩ := HY1.out.cells
    rw [HU.out] at a0 a1 a2 a3 c0 c1 c2 c3
    go_wp2_with fail
    rw [← HU.out]
    refine HKP.out.mono ?_
    rintro e w2 ⟨rfl, hb⟩
    have HB2 := hid (below_from HBU.out hb)
    have HA2 := hid (HA.out.later hb)
    have HS2 := hid (HY1.out.later hb)
    have HR2 := hid (HY2.out.later hb)
    have HX2 := hid (HSU.out.later hb)
    clear hb a0 a1 a2 a3 c0 c1 c2 c3
    obtain ⟨a0, a1, a2, a3⟩ := HA2.out.cells
    obtain ⟨c0, c1, c2, c3⟩ := HS2.out.cells
    have KT := hid (SameTrees_same w2 _ ta tn k1 tc l' l HX2.out.1 (HST.out.1.later HB2.out) HBQ.out)
    have hq1 : (((bn + 1 : Nat) : Int) != (bn : Int) + 1) = false := by simp
    have hq2 : (n + 1 != n + 1) = false := by simp
    have hq3 : (n != n) = false := by simp
    have hq4 : (c != c) = false := by simp
    go_wp2_with fail
    refine KT.out.mono ?_
    rintro e w3 ⟨rfl, hb⟩
    have HB3 := hid (below_from HB2.out hb)
    have HA3 := hid (HA2.out.later hb)
    have HS3 := hid (HS2.out.later hb)
    have HR3 := hid (HR2.out.later hb)
    have HX3 := hid (HX2.out.later hb)
    clear hb a0 a1 a2 a3 c0 c1 c2 c3 hq1 hq2 hq3 hq4
    obtain ⟨a0, a1, a2, a3⟩ := HA3.out.cells
    obtain ⟨X, hX⟩ : ∃ X, bk b9 bn = X := ⟨_, rfl⟩
    obtain ⟨bb, bo, e9, hcs⟩ := HX3.out.2.cells (by omega)
    simp only [Option.some.injEq, Addr.mk.injEq, and_true] at e9
    obtain ⟨rfl, rfl⟩ := e9
    obtain ⟨e0, e1, e2, e3, e4, e5, e6⟩ := hcs bn (by omega)
    have HXR := hid (HX3.out.2.rqs bn (by omega))
    rw [hX] at e0 e1 e2 e3 e4 e5 e6 HXR F3 F5
    simp only [Nat.zero_add] at e0 e1 e2 e3 e4 e5 e6
    have hXid : X.id = n := F3.out
    rw [hXid] at e0
    clear hcs hX
    obtain ⟨B, hB⟩ : ∃ B, w3.heap.size = B := ⟨_, rfl⟩
    obtain ⟨V, hV⟩ : ∃ V, V = w3.alloc (.cells #[.int .i64 n, .int .i64 X.rq.queue, .int .i64 X.rq.fr, .int .i64 X.rq.un, .int .i64 X.rq.kind, .slice X.rq.pa X.rq.pn X.rq.pc, .slice X.ba X.bn X.bc] 40) := ⟨_, rfl⟩
    have hbV : Below w3.heap.size w3 V := by rw [hV]; exact (Below.refl _ _).alloc (Nat.le_refl _) _
    have hrow : V.heap[B]? = some (.cells #[.int .i64 n, .int .i64 X.rq.queue, .int .i64 X.rq.fr, .int .i64 X.rq.un, .int .i64 X.rq.kind, .slice X.rq.pa X.rq.pn X.rq.pc, .slice X.ba X.bn X.bc] 40 (0, 0)) := by rw [hV, ← hB]; exact heap_alloc_new w3 _
    have HROW := hid hrow
    have HV := hid hV
    have HBV := hid (below_from HB3.out hbV)
    have HAV := hid (HA3.out.later hbV)
    have HSV := hid (HS3.out.later hbV)
    have HRV := hid (HR3.out.later hbV)
    have HXV := hid (HX3.out.later hbV)
    have HXRV := hid (RqIn.later HXR.out hbV)
    have KC := Cancel_ok V c (n + 1) _ tn k1 l' _ (bn + 1) k9 b9 HXV.out n F1.out bn F2.out
    rw [Nat.add_sub_cancel] at KC
    have HKC := hid KC
    have hx1 : (bn : Int) + 1 - 1 = bn := by omega
    have hx2 : (bn : Int) < (bn : Int) + 1 := by omega
    obtain ⟨v0, v1, v2, v3⟩ := HAV.out.cells
    rw [HV.out] at v0 v1 v2 v3
    go_wp2_with fail
    rw [← HV.out]
    refine HKC.out.mono ?_
    rintro e w4 ⟨v, rfl, gg, kk, l4, aa, km, b4, rfl, hSt4, hbq4, hbb4, hb⟩
    obtain ⟨C, hC⟩ : ∃ C, w4.heap.size = C := ⟨_, rfl⟩
    obtain ⟨Q, hQ⟩ : ∃ Q, Q = w4.alloc (.cells #[.int .i64 c, .int .i64 (n + 1), .slice (some ⟨gg, 0, none⟩) tn kk, .slice aa bn km] 25) := ⟨_, rfl⟩
    have hbQ : Below w4.heap.size w4 Q := by rw [hQ]; exact (Below.refl _ _).alloc (Nat.le_refl _) _
    have hxQ : StBox Q C (.int .i64 c) (.int .i64 (n + 1)) (.slice (some ⟨gg, 0, none⟩) tn kk) (.slice aa bn km) := by rw [hQ, ← hC]; exact StBox.new w4 _ _ _ _
    obtain ⟨Z, hZ⟩ : ∃ Z, Z = w4.alloc (.cells #[.int .i64 c, .int .i64 n, .slice (some ⟨gg, 0, none⟩) tn kk, .slice aa bn km] 25) := ⟨_, rfl⟩
    have hbZ : Below w4.heap.size w4 Z := by rw [hZ]; exact (Below.refl _ _).alloc (Nat.le_refl _) _
    have hxZ : StBox Z C (.int .i64 c) (.int .i64 n) (.slice (some ⟨gg, 0, none⟩) tn kk) (.slice aa bn km) := by rw [hZ, ← hC]; exact StBox.new w4 _ _ _ _
    have HQ := hid hQ
    have HZ := hid hZ
    have HBZ := hid (below_from (below_from HBV.out hb) hbZ)
    have HSQ := hid ((HSV.out.later hb).later hbQ)
    have HSZ := hid ((HSV.out.later hb).later hbZ)
    have HRZ := hid ((HRV.out.later hb).later hbZ)
    have HAZ := hid ((HAV.out.later hb).later hbZ)
    have HYZ := hid hxZ
    have hrowZ := (hbZ.block _ (Nat.lt_of_lt_of_le (Array.getElem?_eq_some_iff.1 HROW.out).1 hb.size)).trans ((hb.block _ (Array.getElem?_eq_some_iff.1 HROW.out).1).trans HROW.out)
    have HT4 := hid (hSt4.later hbZ)
    have HX4 := hid ((HXV.out.later hb).later hbZ)
    have HXR4 := hid (RqIn.later (RqIn.later HXRV.out hb) hbZ)
    have KQ := hid fun Y (hY : Below Z.heap.size Z Y) => SameReqs_same Y X.rq r (RqIn.later HXR4.out hY) (RqIn.later (RqIn.later HRQ.out HBZ.out) hY) F5.out
    have KB := hid fun Y (hY : Below Z.heap.size Z Y) => SameBooks_same Y _ ba bn k9 bc (b9.take bn) b ((HX4.out.2.take (by omega)).later hY) ((HST.out.2.later HBZ.out).later hY) F6.out
    have KS := hid fun Y (hY : Below Z.heap.size Z Y) => SameStates_same Y c n _ tn kk l4 _ bn km b4 (HT4.out.later hY) ta tc l ba bc b ((HST.out.later HBZ.out).later hY) (hbq4.trans HBQ.out) (hbb4.trans F7.out)
    have B0 : Hid (Z.cell? ⟨B, 0, none⟩ = some (.int .i64 n)) := hid (by rw [cell_of_row Z B 0 _ _ _ hrowZ]; rfl)
    have B1 : Hid (Z.cell? ⟨B, 1, none⟩ = some (.int .i64 X.rq.queue)) := hid (by rw [cell_of_row Z B 1 _ _ _ hrowZ]; rfl)
    have B2 : Hid (Z.cell? ⟨B, 2, none⟩ = some (.int .i64 X.rq.fr)) := hid (by rw [cell_of_row Z B 2 _ _ _ hrowZ]; rfl)
    have B3 : Hid (Z.cell? ⟨B, 3, none⟩ = some (.int .i64 X.rq.un)) := hid (by rw [cell_of_row Z B 3 _ _ _ hrowZ]; rfl)
    have B4 : Hid (Z.cell? ⟨B, 4, none⟩ = some (.int .i64 X.rq.kind)) := hid (by rw [cell_of_row Z B 4 _ _ _ hrowZ]; rfl)
    have B5 : Hid (Z.cell? ⟨B, 5, none⟩ = some (.slice X.rq.pa X.rq.pn X.rq.pc)) := hid (by rw [cell_of_row Z B 5 _ _ _ hrowZ]; rfl)
    obtain ⟨c0, c1, c2, c3⟩ := HSQ.out.cells
    obtain ⟨q0, q1, q2, q3⟩ := hxQ.cells
    rw [HQ.out] at c0 c1 c2 c3 q0 q1 q2 q3
    clear hb hbQ hbZ hQ hZ hxQ hxZ hSt4 hbq4 hbb4 hrowZ a0 a1 a2 a3 e0 e1 e2 e3 e4 e5 e6 v0 v1 v2 v3
    go_wp2_with fail
    rw [← HZ.out]
    obtain ⟨S0, S1, S2, S3⟩ := HSZ.out.cells
    obtain ⟨D0, D1, D2, D3, D4⟩ := HRZ.out.cells
    obtain ⟨A0, A1, A2, A3⟩ := HAZ.out.cells
    obtain ⟨Y0, Y1, Y2, Y3⟩ := HYZ.out.cells
    replace S0 := hid S0
    replace S1 := hid S1
    replace S2 := hid S2
    replace S3 := hid S3
    replace D0 := hid D0
    replace D1 := hid D1
    replace D2 := hid D2
    replace D3 := hid D3
    replace D4 := hid D4
    replace A3 := hid A3
    replace Y0 := hid Y0
    replace Y1 := hid Y1
    replace Y2 := hid Y2
    replace Y3 := hid Y3
    clear A0 A1 A2 c0 c1 c2 c3 q0 q1 q2 q3
    refine wp_region_des ((Try.f4.body.bind fun c => regOps c 9).getD #[]) (by kernel_rfl) [isV (.bool true), isV (.bool true), isV (.pointer (some ⟨B, 0, none⟩)), isV (.int .i64 n), isV (.int .i64 n), isV (.bool true), isV (.bool true), isV (.bool true), isV (.pointer (some ⟨B, 1, none⟩)), isV (.agg #[.int .i64 X.rq.queue, .int .i64 X.rq.fr, .int .i64 X.rq.un, .int .i64 X.rq.kind, .slice X.rq.pa X.rq.pn X.rq.pc]), isV (.agg #[.int .i64 r.queue, .int .i64 r.fr, .int .i64 r.un, .int .i64 r.kind, .slice r.pa r.pn r.pc]), isV (.bool true), isV (.bool true), isV (.bool true), isV (.pointer (some ⟨A, 3, none⟩)), isV (.slice (some ⟨g9, 0, none⟩) (bn + 1) k9), isV (.pointer (some ⟨S, 3, none⟩)), isV (.slice ba bn bc), isV (.int .i64 bn), isV (.slice (some ⟨g9, 0, none⟩) bn k9), isV (.pointer (some ⟨S, 3, none⟩)), isV (.slice ba bn bc), isV (.bool true), isV (.bool true), isV (.bool true), isV (.int .i64 0), isV (.bool true), isV (.bool true), isV (.bool true), isV (.agg #[.int .i64 c, .int .i64 n, .slice (some ⟨gg, 0, none⟩) tn kk, .slice aa bn km]), isV (.agg #[.int .i64 c, .int .i64 n, .slice ta tn tc, .slice ba bn bc]), isV (.bool true), isV (.bool true), isV (.bool true)] [(1, true), (7, true), (13, true), (24, true), (28, true)] (by kernel_rfl) (by kernel_rfl) (by kernel_rfl) ?hg ?hstep ?hfin
    case hg =>
      intro g hg v w h
      simp only [List.mem_cons, List.not_mem_nil, or_false] at hg
      rcases hg with rfl | rfl | rfl | rfl | rfl <;> exact h
    case hstep =>
      refine AllOps.cons 1 rfl ?_ ?_
      · intro T w' hb hl hd
        refine Or.inr ⟨16, #[], by go_simp, ?_⟩
        refine (bookBegun_any w').mono ?_
        rintro e w'' ⟨rfl, hbb⟩
        exact ⟨_, rfl, rfl, hbb⟩
      refine AllOps.cons 2 rfl ?_ ?_
      · intro T w' hb hl hd
        have h0 : T.getD 80 undef = .bool true := hd 0 80 (by kernel_rfl)
        exact Or.inl ⟨.bool true, w', by go_simp, rfl, Below.refl _ _⟩
      refine AllOps.cons 3 rfl ?_ ?_
      · intro T w' hb hl hd
        have h0 : T.getD 8 undef = .pointer (some ⟨B, 0, none⟩) := hl 8 (by kernel_rfl)
        exact Or.inl ⟨.pointer (some ⟨B, 0, none⟩), w', by go_simp, rfl, Below.refl _ _⟩
      refine AllOps.cons 4 rfl ?_ ?_
      · intro T w' hb hl hd
        have h0 : T.getD 82 undef = .pointer (some ⟨B, 0, none⟩) := hd 2 82 (by kernel_rfl)
        have cc := cell_later hb B0.out
        exact Or.inl ⟨.int .i64 n, w', by go_simp, rfl, Below.refl _ _⟩
      refine AllOps.cons 5 rfl ?_ ?_
      · intro T w' hb hl hd
        have h0 : T.getD 6 undef = .int .i64 n := hl 6 (by kernel_rfl)
        exact Or.inl ⟨.int .i64 n, w', by go_simp, rfl, Below.refl _ _⟩
      refine AllOps.cons 6 rfl ?_ ?_
      · intro T w' hb hl hd
        have h0 : T.getD 83 undef = .int .i64 n := hd 3 83 (by kernel_rfl)
        have h1 : T.getD 84 undef = .int .i64 n := hd 4 84 (by kernel_rfl)
        exact Or.inl ⟨.bool true, w', by go_simp, rfl, Below.refl _ _⟩
      refine AllOps.cons 7 rfl ?_ ?_
      · intro T w' hb hl hd
        have h0 : T.getD 81 undef = .bool true := hd 1 81 (by kernel_rfl)
        have h1 : T.getD 85 undef = .bool true := hd 5 85 (by kernel_rfl)
        exact Or.inl ⟨.bool true, w', by go_simp, rfl, Below.refl _ _⟩
      refine AllOps.cons 8 rfl ?_ ?_
      · intro T w' hb hl hd
        have h0 : T.getD 86 undef = .bool true := hd 6 86 (by kernel_rfl)
        exact Or.inl ⟨.bool true, w', by go_simp, rfl, Below.refl _ _⟩
      refine AllOps.cons 9 rfl ?_ ?_
      · intro T w' hb hl hd
        have h0 : T.getD 8 undef = .pointer (some ⟨B, 0, none⟩) := hl 8 (by kernel_rfl)
        exact Or.inl ⟨.pointer (some ⟨B, 1, none⟩), w', by go_simp, rfl, Below.refl _ _⟩
      refine AllOps.cons 10 rfl ?_ ?_
      · intro T w' hb hl hd
        have h0 : T.getD 88 undef = .pointer (some ⟨B, 1, none⟩) := hd 8 88 (by kernel_rfl)
        have cc1 := cell_later hb B1.out
        have cc2 := cell_later hb B2.out
        have cc3 := cell_later hb B3.out
        have cc4 := cell_later hb B4.out
        have cc5 := cell_later hb B5.out
        exact Or.inl ⟨.agg #[.int .i64 X.rq.queue, .int .i64 X.rq.fr, .int .i64 X.rq.un, .int .i64 X.rq.kind, .slice X.rq.pa X.rq.pn X.rq.pc], w', by go_simp, rfl, Below.refl _ _⟩
      refine AllOps.cons 11 rfl ?_ ?_
      · intro T w' hb hl hd
        have h0 : T.getD 3 undef = .pointer (some ⟨S + 1, 0, none⟩) := hl 3 (by kernel_rfl)
        have cc0 := cell_later hb D0.out
        have cc1 := cell_later hb D1.out
        have cc2 := cell_later hb D2.out
        have cc3 := cell_later hb D3.out
        have cc4 := cell_later hb D4.out
        exact Or.inl ⟨.agg #[.int .i64 r.queue, .int .i64 r.fr, .int .i64 r.un, .int .i64 r.kind, .slice r.pa r.pn r.pc], w', by go_simp, rfl, Below.refl _ _⟩
      refine AllOps.cons 12 rfl ?_ ?_
      · intro T w' hb hl hd
        have h0 : T.getD 89 undef = .agg #[.int .i64 X.rq.queue, .int .i64 X.rq.fr, .int .i64 X.rq.un, .int .i64 X.rq.kind, .slice X.rq.pa X.rq.pn X.rq.pc] := hd 9 89 (by kernel_rfl)
        have h1 : T.getD 90 undef = .agg #[.int .i64 r.queue, .int .i64 r.fr, .int .i64 r.un, .int .i64 r.kind, .slice r.pa r.pn r.pc] := hd 10 90 (by kernel_rfl)
        refine Or.inr ⟨19, #[.agg #[.int .i64 X.rq.queue, .int .i64 X.rq.fr, .int .i64 X.rq.un, .int .i64 X.rq.kind, .slice X.rq.pa X.rq.pn X.rq.pc], .agg #[.int .i64 r.queue, .int .i64 r.fr, .int .i64 r.un, .int .i64 r.kind, .slice r.pa r.pn r.pc]], by go_simp, ?_⟩
        refine (KQ.out w' hb).mono ?_
        rintro e w'' ⟨rfl, hbb⟩
        exact ⟨_, rfl, rfl, hbb⟩
      refine AllOps.cons 13 rfl ?_ ?_
      · intro T w' hb hl hd
        have h0 : T.getD 87 undef = .bool true := hd 7 87 (by kernel_rfl)
        have h1 : T.getD 91 undef = .bool true := hd 11 91 (by kernel_rfl)
        exact Or.inl ⟨.bool true, w', by go_simp, rfl, Below.refl _ _⟩
      refine AllOps.cons 14 rfl ?_ ?_
      · intro T w' hb hl hd
        have h0 : T.getD 92 undef = .bool true := hd 12 92 (by kernel_rfl)
        exact Or.inl ⟨.bool true, w', by go_simp, rfl, Below.refl _ _⟩
      refine AllOps.cons 15 rfl ?_ ?_
      · intro T w' hb hl hd
        have h0 : T.getD 5 undef = .pointer (some ⟨A, 0, none⟩) := hl 5 (by kernel_rfl)
        exact Or.inl ⟨.pointer (some ⟨A, 3, none⟩), w', by go_simp, rfl, Below.refl _ _⟩
      refine AllOps.cons 16 rfl ?_ ?_
      · intro T w' hb hl hd
        have h0 : T.getD 94 undef = .pointer (some ⟨A, 3, none⟩) := hd 14 94 (by kernel_rfl)
        have cc := cell_later hb A3.out
        exact Or.inl ⟨.slice (some ⟨g9, 0, none⟩) (bn + 1) k9, w', by go_simp, rfl, Below.refl _ _⟩
      refine AllOps.cons 17 rfl ?_ ?_
      · intro T w' hb hl hd
        have h0 : T.getD 2 undef = .pointer (some ⟨S, 0, none⟩) := hl 2 (by kernel_rfl)
        exact Or.inl ⟨.pointer (some ⟨S, 3, none⟩), w', by go_simp, rfl, Below.refl _ _⟩
      refine AllOps.cons 18 rfl ?_ ?_
      · intro T w' hb hl hd
        have h0 : T.getD 96 undef = .pointer (some ⟨S, 3, none⟩) := hd 16 96 (by kernel_rfl)
        have cc := cell_later hb S3.out
        exact Or.inl ⟨.slice ba bn bc, w', by go_simp, rfl, Below.refl _ _⟩
      refine AllOps.cons 19 rfl ?_ ?_
      · intro T w' hb hl hd
        have h0 : T.getD 97 undef = .slice ba bn bc := hd 17 97 (by kernel_rfl)
        exact Or.inl ⟨.int .i64 bn, w', by go_simp, rfl, Below.refl _ _⟩
      refine AllOps.cons 20 rfl ?_ ?_
      · intro T w' hb hl hd
        have h0 : T.getD 95 undef = .slice (some ⟨g9, 0, none⟩) (bn + 1) k9 := hd 15 95 (by kernel_rfl)
        have h1 : T.getD 98 undef = .int .i64 bn := hd 18 98 (by kernel_rfl)
        have hkk : ¬ k9 < bn := by omega
        exact Or.inl ⟨.slice (some ⟨g9, 0, none⟩) bn k9, w', by go_simp, rfl, Below.refl _ _⟩
      refine AllOps.cons 21 rfl ?_ ?_
      · intro T w' hb hl hd
        have h0 : T.getD 2 undef = .pointer (some ⟨S, 0, none⟩) := hl 2 (by kernel_rfl)
        exact Or.inl ⟨.pointer (some ⟨S, 3, none⟩), w', by go_simp, rfl, Below.refl _ _⟩
      refine AllOps.cons 22 rfl ?_ ?_
      · intro T w' hb hl hd
        have h0 : T.getD 100 undef = .pointer (some ⟨S, 3, none⟩) := hd 20 100 (by kernel_rfl)
        have cc := cell_later hb S3.out
        exact Or.inl ⟨.slice ba bn bc, w', by go_simp, rfl, Below.refl _ _⟩
      refine AllOps.cons 23 rfl ?_ ?_
      · intro T w' hb hl hd
        have h0 : T.getD 99 undef = .slice (some ⟨g9, 0, none⟩) bn k9 := hd 19 99 (by kernel_rfl)
        have h1 : T.getD 101 undef = .slice ba bn bc := hd 21 101 (by kernel_rfl)
        refine Or.inr ⟨20, #[.slice (some ⟨g9, 0, none⟩) bn k9, .slice ba bn bc], by go_simp, ?_⟩
        refine (KB.out w' hb).mono ?_
        rintro e w'' ⟨rfl, hbb⟩
        exact ⟨_, rfl, rfl, hbb⟩
      refine AllOps.cons 24 rfl ?_ ?_
      · intro T w' hb hl hd
        have h0 : T.getD 93 undef = .bool true := hd 13 93 (by kernel_rfl)
        have h1 : T.getD 102 undef = .bool true := hd 22 102 (by kernel_rfl)
        exact Or.inl ⟨.bool true, w', by go_simp, rfl, Below.refl _ _⟩
      refine AllOps.cons 25 rfl ?_ ?_
      · intro T w' hb hl hd
        have h0 : T.getD 103 undef = .bool true := hd 23 103 (by kernel_rfl)
        exact Or.inl ⟨.bool true, w', by go_simp, rfl, Below.refl _ _⟩
      refine AllOps.cons 26 rfl ?_ ?_
      · intro T w' hb hl hd
        have h0 : T.getD 10 undef = .int .i64 0 := hl 10 (by kernel_rfl)
        exact Or.inl ⟨.int .i64 0, w', by go_simp, rfl, Below.refl _ _⟩
      refine AllOps.cons 27 rfl ?_ ?_
      · intro T w' hb hl hd
        have h0 : T.getD 105 undef = .int .i64 0 := hd 25 105 (by kernel_rfl)
        exact Or.inl ⟨.bool true, w', by go_simp, rfl, Below.refl _ _⟩
      refine AllOps.cons 28 rfl ?_ ?_
      · intro T w' hb hl hd
        have h0 : T.getD 104 undef = .bool true := hd 24 104 (by kernel_rfl)
        have h1 : T.getD 106 undef = .bool true := hd 26 106 (by kernel_rfl)
        exact Or.inl ⟨.bool true, w', by go_simp, rfl, Below.refl _ _⟩
      refine AllOps.cons 29 rfl ?_ ?_
      · intro T w' hb hl hd
        have h0 : T.getD 107 undef = .bool true := hd 27 107 (by kernel_rfl)
        exact Or.inl ⟨.bool true, w', by go_simp, rfl, Below.refl _ _⟩
      refine AllOps.cons 30 rfl ?_ ?_
      · intro T w' hb hl hd
        have h0 : T.getD 9 undef = .pointer (some ⟨C, 0, none⟩) := hl 9 (by kernel_rfl)
        have cc0 := cell_later hb Y0.out
        have cc1 := cell_later hb Y1.out
        have cc2 := cell_later hb Y2.out
        have cc3 := cell_later hb Y3.out
        exact Or.inl ⟨.agg #[.int .i64 c, .int .i64 n, .slice (some ⟨gg, 0, none⟩) tn kk, .slice aa bn km], w', by go_simp, rfl, Below.refl _ _⟩
      refine AllOps.cons 31 rfl ?_ ?_
      · intro T w' hb hl hd
        have h0 : T.getD 2 undef = .pointer (some ⟨S, 0, none⟩) := hl 2 (by kernel_rfl)
        have cc0 := cell_later hb S0.out
        have cc1 := cell_later hb S1.out
        have cc2 := cell_later hb S2.out
        have cc3 := cell_later hb S3.out
        exact Or.inl ⟨.agg #[.int .i64 c, .int .i64 n, .slice ta tn tc, .slice ba bn bc], w', by go_simp, rfl, Below.refl _ _⟩
      refine AllOps.cons 32 rfl ?_ ?_
      · intro T w' hb hl hd
        have h0 : T.getD 109 undef = .agg #[.int .i64 c, .int .i64 n, .slice (some ⟨gg, 0, none⟩) tn kk, .slice aa bn km] := hd 29 109 (by kernel_rfl)
        have h1 : T.getD 110 undef = .agg #[.int .i64 c, .int .i64 n, .slice ta tn tc, .slice ba bn bc] := hd 30 110 (by kernel_rfl)
        refine Or.inr ⟨21, #[.agg #[.int .i64 c, .int .i64 n, .slice (some ⟨gg, 0, none⟩) tn kk, .slice aa bn km], .agg #[.int .i64 c, .int .i64 n, .slice ta tn tc, .slice ba bn bc]], by go_simp, ?_⟩
        refine (KS.out w' hb).mono ?_
        rintro e w'' ⟨rfl, hbb⟩
        exact ⟨_, rfl, rfl, hbb⟩
      refine AllOps.cons 33 rfl ?_ ?_
      · intro T w' hb hl hd
        have h0 : T.getD 108 undef = .bool true := hd 28 108 (by kernel_rfl)
        have h1 : T.getD 111 undef = .bool true := hd 31 111 (by kernel_rfl)
        exact Or.inl ⟨.bool true, w', by go_simp, rfl, Below.refl _ _⟩
      refine AllOps.cons 34 rfl ?_ ?_
      · intro T w' hb hl hd
        have h0 : T.getD 112 undef = .bool true := hd 32 112 (by kernel_rfl)
        exact Or.inl ⟨.bool true, w', by go_simp, rfl, Below.refl _ _⟩
      exact trivial
    case hfin =>
      intro T w' hb hs hl hd
      have h0 : T.getD 4 undef = .bool true := hd 33 4 (by kernel_rfl)
      apply_assumption
      go_wp2
      exact bodyPost_ret (v := .bool true) ((results_tmp rfl T _ _).trans (by rw [h0])) rfl ⟨rfl, by rw [← hS]; exact below_from HBZ.out hb⟩
  · have KS := Submit_any W1 c n ta tn tc l ba bn bc b (h.later hb0) r (RqIn.later hr hb0)
    obtain ⟨E, hEE⟩ : ∃ E, subE c n l b r = E := ⟨_, rfl⟩
    rw [hEE] at KS hE
    have hEn : (E != 0) = true := by simp [hE]
    have HK := hid KS
    clear KS hE hEE hb0 h hr
    go_enter Try.func4, Try.ntmps4
    go_wp2_with fail
    rw [← HW1.out]
    refine HK.out.mono ?_
    rintro e w1 ⟨i1, i2, s1, n1, k1, s2, n2, k2, x, rfl, hb⟩
    obtain ⟨U, hU⟩ : ∃ U, U = w1.alloc (.cells #[.int .i64 i1, .int .i64 i2, .slice s1 n1 k1, .slice s2 n2 k2] 25) := ⟨_, rfl⟩
    have HBU : Hid (Below w.heap.size w U) := hid (by rw [hU]; exact (below_from HB0.out hb).alloc (below_from HB0.out hb).size _)
    have HU := hid hU
    clear hb hU c0 c1 c2 c3 d0 d1 d2 d3 d4
    go_wp2_with fail
    rw [← HU.out]
    refine (bookBegun_any U).mono ?_
    rintro e w9 ⟨rfl, hb⟩
    have HB9 := hid (below_from HBU.out hb)
    clear hb
    go_wp2
    go_ret
    exact ⟨rfl, HB9.out⟩

set_option maxRecDepth 100000 in
theorem BookTrue_lifted (os : Os) (started : os.Started) (H : Type) (enc : TypeId × Value → H) :
    ReturnsInHanded {} Try.checked os 4 .any (Rows.bookTrueSpec.pre6 enc Try.prog Try.f4 Rows.bookTrueRow.domain false) (Rows.bookTrueSpec.post enc Try.prog Try.f4 false true false false) := by
  refine returnsInHanded_of_change (C := Try.checked) own started (by kernel_rfl) Try.func4
    (ChangeSpec.witness6 (enc := enc) (C := Try.checked) false ⟨#[], #[.agg #[.int .i64 0, .int .i64 0, .slice none 0 0, .slice none 0 0], .agg #[.int .i64 0, .int .i64 0, .int .i64 0, .int .i64 0, .slice none 0 0]], []⟩ 8 (by kernel_rfl) (by kernel_rfl) (by kernel_rfl) (by kernel_rfl)) ?_
  intro W base args ds gs before hval0 hW hcnd _
  have hval : ∀ (j : Nat) t v, Try.f4.params[j]? = some t → args[j]? = some v → Value.okWide Try.prog W .any base t v := hval0
  have hW' := hW
  obtain ⟨p, q, hA0, hV, rfl, hfz, hnd⟩ := hW
  have hA : DataW.TrodAll enc Try.prog W 0 (fun _ => true) true Try.f4.params.toList args.toList ds p := hA0
  rw [Try.params4] at hA hval
  obtain ⟨v0, vs0, d0, ds0, p0, q0, hargs, rfl, rfl, h0, r0⟩ := trodAll_cons hA
  obtain ⟨v1, vs1, d1, ds1, p1, q1, rfl, rfl, rfl, h1, r1⟩ := trodAll_cons r0
  obtain ⟨rfl, rfl, rfl⟩ := trodAll_nil r1
  obtain rfl : args = #[v0, v1] := by cases args; simp_all
  obtain ⟨rfl, rfl⟩ := trodVars_none hV
  have k0 := h0
  have lt0 : ∀ x ∈ p0, x.block < W.heap.size := by obtain ⟨m, hm⟩ := k0; exact DataW.trod_lt m _ _ _ hm
  obtain ⟨sc0, sn0, sta0, stn0, stc0, sl0, sba0, sbn0, sbc0, sb0, rfl, w0⟩ := st_arg (hval 0 25 v0 rfl rfl) h0
  have k1 := h1
  have lt1 : ∀ x ∈ p1, x.block < W.heap.size := by obtain ⟨m, hm⟩ := k1; exact DataW.trod_lt m _ _ _ hm
  obtain ⟨x1, rfl, w1⟩ := rq_arg (hval 1 37 v1 rfl rfl) h1
  clear hA0 hval0
  refine (BookTrue_walk W sc0 sn0 sta0 stn0 stc0 sl0 sba0 sbn0 sbc0 sb0 w0 x1 w1).mono fun e W' ⟨he, bel⟩ => ?_
  subst he
  exact ⟨_, rfl, _, _, _, [], _, [], hW', trodAll_mk1 (shut_bool Try.underlying4 _), (trodAll_cons_mk (Below.trod laidOut (by kernel_rfl) (of_decide_eq_true (by kernel_rfl)) k0 bel lt0) (trodAll_cons_mk (Below.trod laidOut (by kernel_rfl) (of_decide_eq_true (by kernel_rfl)) k1 bel lt1) trodAll_mk0)), rfl, bel.frame _, fun h => by cases h⟩

theorem BookTrue_holds : Rows.BookTrueSaid :=
  OpenClaim.holds_of_wide 4 Try.f4 rfl rfl rfl rfl rfl rfl rfl ⟨rfl, rfl, rfl, rfl, rfl⟩ rfl rfl rfl rfl rfl (by kernel_rfl) Try.func4 (by kernel_rfl)
    (of_decide_eq_true (by kernel_rfl)) (by unfold Func.isWrapper; first | (rw [if_pos (by decide +kernel)]; kernel_rfl) | (rw [if_neg (by decide +kernel)]; exact ⟨rfl, rfl⟩))
    (fun os started H enc _ => BookTrue_lifted os started H enc)
#print axioms BookTrue_holds
end Go.Proofs.Ytcgchicdmgllaad
