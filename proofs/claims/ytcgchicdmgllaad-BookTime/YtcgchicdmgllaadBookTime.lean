/- BookTime: whatever state and two times it is handed, the call returns true, and its arguments read afterwards as they read before. -/
import Derived.Test.YtcgchicdmgllaadSame
import Derived.Test.YtcgchicdmgllaadBookN
import Derived.Test.YtcgchicdmgllaadFrameS
import Derived.Deep.DeepCutAuto
namespace Go.Proofs.Ytcgchicdmgllaad
open Go.ChangeShapes Go.WideShapes Go.ChangeAt Go.RowKit

theorem none_state (w : World) : StIn w none 0 0 [] none 0 0 [] := ⟨⟨rfl, Nat.le_refl _, by omega, fun h => absurd h (Nat.lt_irrefl 0), fun i h => absurd h (Nat.not_lt_zero i), fun i h => absurd h (Nat.not_lt_zero i)⟩, ⟨rfl, Nat.le_refl _, by omega, fun h => absurd h (Nat.lt_irrefl 0), fun i h => absurd h (Nat.not_lt_zero i), fun i h => absurd h (Nat.not_lt_zero i)⟩⟩
theorem none_tick (t : Int) : tickE 0 0 [] [] t ≠ 0 := by
  have : planE 0 0 [] [] = 2 := by kernel_rfl
  unfold tickE
  rw [this, if_neg (by decide)]
  decide
/-- Tick's answer, its lengths by their own names -/
def TAns (w w' : World) (e : Ending) (t n : Int) (tn m : Nat) (d : Int) (l : QL) (bx : BL) : Prop := ∃ g k1 l' aa k9 b9, e = .returned (.tuple #[.agg #[.int .i64 t, .int .i64 n, .slice (some ⟨g, 0, none⟩) tn k1, .slice aa m k9], .int .i64 d, .int .i64 0]) ∧ StIn w' (some ⟨g, 0, none⟩) tn k1 l' aa m k9 b9 ∧ bareQ l' = bareQ l ∧ bareB b9 = bareB bx ∧ Below w.heap.size w w'
theorem Tick_at (w : World) (c n : Int) (ta : Option Addr) (tn tc : Nat) (l : QL) (ba : Option Addr) (bn bc : Nat) (b : BL) (h : StIn w ta tn tc l ba bn bc b) (t : Int) (hE : tickE c n l b t = 0) (m : Nat) (hm : (stays b t).length = m) (d : Int) (hd : (bn : Int) - m = d) :
    Calls Try.prog 23 #[.agg #[.int .i64 c, .int .i64 n, .slice ta tn tc, .slice ba bn bc], .int .i64 t] w fun e w' => TAns w w' e t n tn m d l (stays b t) := by
  refine (Tick_ok w c n ta tn tc l ba bn bc b h t hE).mono ?_
  rintro e w' ⟨v, rfl, g, k1, l', aa, k9, b9, rfl, hSt, hbq, hbb, hb⟩
  rw [hm, hd]
  rw [hm] at hSt
  exact ⟨g, k1, l', aa, k9, b9, rfl, hSt, hbq, hbb, hb⟩

set_option maxRecDepth 100000 in
set_option maxHeartbeats 8000000 in
theorem BookTime_walk (w : World) (c n : Int) (ta : Option Addr) (tn tc : Nat) (l : QL) (ba : Option Addr) (bn bc : Nat) (b : BL) (h : StIn w ta tn tc l ba bn bc b) (t : Int) (_p0 : -9223372036854775808 ≤ t) (_p1 : t ≤ 9223372036854775807) (u : Int) (_q0 : -9223372036854775808 ≤ u) (_q1 : u ≤ 9223372036854775807) :
    Calls Try.prog 6 #[.agg #[.int .i64 c, .int .i64 n, .slice ta tn tc, .slice ba bn bc], .int .i64 t, .int .i64 u] w fun e w' => e = .returned (.bool true) ∧ Below w.heap.size w w' := by
  obtain ⟨S, hS⟩ : ∃ S, w.heap.size = S := ⟨_, rfl⟩
  obtain ⟨W1, hW1⟩ : ∃ W1, W1 = w.alloc (.cells #[.int .i64 c, .int .i64 n, .slice ta tn tc, .slice ba bn bc] 25) := ⟨_, rfl⟩
  have hb0 : Below w.heap.size w W1 := by rw [hW1]; exact (Below.refl _ _).alloc (Nat.le_refl _) _
  have x1 : StBox W1 S (.int .i64 c) (.int .i64 n) (.slice ta tn tc) (.slice ba bn bc) := by rw [hW1, ← hS]; exact StBox.new w _ _ _ _
  have HST := hid h
  have HX1 := hid x1
  have HB0 := hid hb0
  have HW1 := hid hW1
  obtain ⟨c0, c1, c2, c3⟩ := x1.cells
  have hbl := h.2.len
  clear hW1 x1
  by_cases hE : tickE c n l b t = 0
  · obtain ⟨n1, hn1⟩ : ∃ n1, (stays b t).length = n1 := ⟨_, rfl⟩
    obtain ⟨d1, hd1⟩ : ∃ d1 : Int, (bn : Int) - n1 = d1 := ⟨_, rfl⟩
    have HK := hid (Tick_at W1 c n ta tn tc l ba bn bc b (h.later hb0) t hE n1 hn1 d1 hd1)
    have HE := hid hE
    have HN1 := hid hn1
    have hb12 : bn ≤ 12 := by have := (sound_of (tick_ok hE).1).clean.few; omega
    have hn1b : n1 ≤ bn := by have := stays_le b t; omega
    have HBL := hid hbl
    have HD1 := hid hd1
    clear hE hb0 h hbl hn1 hd1
    go_enter Try.func6, Try.ntmps6
    go_wp2_with fail
    rw [← HW1.out]
    refine HK.out.mono ?_
    rintro e w1 ⟨g, k1, l', aa, k9, b1, rfl, hSt, hbq, hbb, hb⟩
    obtain ⟨A, hA⟩ : ∃ A, w1.heap.size = A := ⟨_, rfl⟩
    obtain ⟨U, hU⟩ : ∃ U, U = w1.alloc (.cells #[.int .i64 t, .int .i64 n, .slice (some ⟨g, 0, none⟩) tn k1, .slice aa n1 k9] 25) := ⟨_, rfl⟩
    have hbU : Below w1.heap.size w1 U := by rw [hU]; exact (Below.refl _ _).alloc (Nat.le_refl _) _
    have HA : Hid (StBox U A (.int .i64 t) (.int .i64 n) (.slice (some ⟨g, 0, none⟩) tn k1) (.slice aa n1 k9)) := hid (by rw [hU, ← hA]; exact StBox.new w1 _ _ _ _)
    have HBU := hid (below_from (below_from HB0.out hb) hbU)
    have HSU := hid (hSt.later hbU)
    have HU := hid hU
    have HY1 := hid ((HX1.out.later hb).later hbU)
    have HBQ := hid hbq
    have HBB := hid hbb
    have HAA := hid hA
    have eE : tickE t n l' b1 u = tickE t n l (stays b t) u := tickE_same hbq hbb u
    clear hb hbU hU hSt hbq hbb c0 c1 c2 c3
    obtain ⟨a0, a1, a2, a3⟩ := HA.out.cells
    rw [HU.out] at a0 a1 a2 a3
    by_cases hF : tickE t n l' b1 u = 0
    · have HSO := hid (tick_sound HE.out)
      obtain ⟨hp9, hu0, hu48, htu⟩ := tick_ok hF
      obtain ⟨n2, hn2⟩ : ∃ n2, (stays b1 u).length = n2 := ⟨_, rfl⟩
      obtain ⟨d2, hd2⟩ : ∃ d2 : Int, (n1 : Int) - n2 = d2 := ⟨_, rfl⟩
      have hbu : bareB (stays b1 u) = bareB (stays b u) := (stays_same HBB.out u).trans (by rw [stays_two b htu])
      have hn2' : (stays b u).length = n2 := (bare_len hbu).symm.trans hn2
      have hn2b : n2 ≤ n1 := by have h1 := stays_le b1 u; have h2 := bare_len HBB.out; have h3 := HN1.out; omega
      obtain ⟨d3, hd3⟩ : ∃ d3 : Int, (bn : Int) - n2 = d3 := ⟨_, rfl⟩
      have HK2 := hid (Tick_at U t n _ tn k1 l' _ n1 k9 b1 HSU.out u hF n2 hn2 d2 hd2)
      have HE3 := tick_more HE.out htu hu48
      have HK3 := hid fun X (hX : Below w.heap.size w X) => Tick_at X c n ta tn tc l ba bn bc b (HST.out.later hX) u HE3 n2 hn2' d3 hd3
      have HPC := hid hp9
      have HBU2 := hid hbu
      have h123 : (d3 == d1 + d2) = true := by have := HD1.out; simp; omega
      have h112 : ((n1 : Int) + d1 == bn) = true := by have := HD1.out; simp; omega
      have hr1 : 0 ≤ d1 ∧ d1 ≤ 12 := by have := HD1.out; omega
      have hr2 : 0 ≤ d2 ∧ d2 ≤ 12 := by omega
      clear hF eE hn2 hd2 hbu hn2' hd3 HE3 hp9
      go_wp2_with fail
      rw [← HU.out]
      refine HK2.out.mono ?_
      rintro e w2 ⟨g2, k2, l2, aa2, m2, b2, rfl, hSt2, hbq2, hbb2, hb⟩
      obtain ⟨D, hD⟩ : ∃ D, w2.heap.size = D := ⟨_, rfl⟩
      obtain ⟨V2, hV2⟩ : ∃ V2, V2 = w2.alloc (.cells #[.int .i64 u, .int .i64 n, .slice (some ⟨g2, 0, none⟩) tn k2, .slice aa2 n2 m2] 25) := ⟨_, rfl⟩
      have hbV : Below w2.heap.size w2 V2 := by rw [hV2]; exact (Below.refl _ _).alloc (Nat.le_refl _) _
      have HD2 : Hid (StBox V2 D (.int .i64 u) (.int .i64 n) (.slice (some ⟨g2, 0, none⟩) tn k2) (.slice aa2 n2 m2)) := hid (by rw [hV2, ← hD]; exact StBox.new w2 _ _ _ _)
      have HBV := hid (below_from (below_from HBU.out hb) hbV)
      have HSV := hid (hSt2.later hbV)
      have HXV := hid ((HSU.out.later hb).later hbV)
      have HAV := hid ((HA.out.later hb).later hbV)
      have HYV := hid ((HY1.out.later hb).later hbV)
      have HV2 := hid hV2
      have HBQ2 := hid (hbq2.trans HBQ.out)
      have HBB2 := hid (hbb2.trans HBU2.out)
      clear hb hbV hV2 hSt2 hbq2 hbb2 a0 a1 a2 a3
      obtain ⟨c0, c1, c2, c3⟩ := HYV.out.cells
      rw [HV2.out] at c0 c1 c2 c3
      go_wp2_with fail
      rw [← HV2.out]
      refine (HK3.out V2 HBV.out).mono ?_
      rintro e w3 ⟨g3, k3, l3, aa3, m3, b3, rfl, hSt3, hbq3, hbb3, hb⟩
      obtain ⟨G, hG⟩ : ∃ G, w3.heap.size = G := ⟨_, rfl⟩
      obtain ⟨V3, hV3⟩ : ∃ V3, V3 = w3.alloc (.cells #[.int .i64 u, .int .i64 n, .slice (some ⟨g3, 0, none⟩) tn k3, .slice aa3 n2 m3] 25) := ⟨_, rfl⟩
      have hbV : Below w3.heap.size w3 V3 := by rw [hV3]; exact (Below.refl _ _).alloc (Nat.le_refl _) _
      have HG3 : Hid (StBox V3 G (.int .i64 u) (.int .i64 n) (.slice (some ⟨g3, 0, none⟩) tn k3) (.slice aa3 n2 m3)) := hid (by rw [hV3, ← hG]; exact StBox.new w3 _ _ _ _)
      have HB3 := hid (below_from (below_from HBV.out hb) hbV)
      have HS3 := hid (hSt3.later hbV)
      have HS2 := hid ((HSV.out.later hb).later hbV)
      have HX3 := hid ((HXV.out.later hb).later hbV)
      have HA3 := hid ((HAV.out.later hb).later hbV)
      have HY3 := hid ((HYV.out.later hb).later hbV)
      have HD3 := hid ((HD2.out.later hb).later hbV)
      have HV3 := hid hV3
      have eQ := hid (HBQ2.out.trans hbq3.symm)
      have eB := hid (HBB2.out.trans hbb3.symm)
      clear hb hbV hV3 hSt3 hbq3 hbb3 c0 c1 c2 c3
      have KSS := hid fun X (hX : Below V3.heap.size V3 X) => SameStates_same X u n _ tn k2 l2 _ n2 m2 b2 (HS2.out.later hX) _ k3 l3 _ m3 b3 (HS3.out.later hX) eQ.out eB.out
      have KPC := hid fun X (hX : Below V3.heap.size V3 X) => CheckS_any X t n _ tn k1 l' _ n1 k9 b1 (HX3.out.later hX)
      rw [HPC.out] at KPC
      have KX := hid fun X (hX : Below V3.heap.size V3 X) => HX3.out.2.later hX
      have hcl := (sound_of HPC.out).clean
      have hal := (sound_of HPC.out).alive
      have hb1l : n1 = b1.length := HX3.out.2.len
      have HOV : Hid (∀ j, j < n1 → meets (bk b1 j).rq (bk b1 j).bs = true ∧ t < overV (bk b1 j)) := fun j hj => ⟨(clean_at hcl (bk_mem (by omega))).1, hal j (by omega)⟩
      clear hcl hal hb1l
      have hk9 := HX3.out.2.le
      have hk9b := HX3.out.2.capb
      go_wp2_with fail
      rw [← HV3.out]
      go_loopw [16] (fun p wr => ∃ j : Nat, p = .int .i64 j ∧ j ≤ n1 ∧ Below V3.heap.size V3 wr) (fun p _ => n1 - (intOf p).toNat)
      case atStart => exact ⟨0, rfl, by omega, by first | exact Below.refl _ _ | (rw [HV3.out]; exact Below.refl _ _)⟩
      case round =>
        obtain ⟨j, rfl, hj, hbel⟩ := hrel
        have HBE := hid hbel
        obtain ⟨a0, a1, a2, a3⟩ := (HA3.out.later hbel).cells
        have A3 := hid a3
        by_cases hlt : j < n1
        · have hlt' : (j : Int) < n1 := by omega
          obtain ⟨bb, bo, rfl, hcs⟩ := (KX.out wr hbel).cells (by omega)
          obtain ⟨E0, E1, E2, E3, E4, E5, E6⟩ := hcs j hlt
          have HRQ := (KX.out wr hbel).rqs j hlt
          have HBT := (KX.out wr hbel).bites j hlt
          obtain ⟨hm, hov⟩ := HOV.out j hlt
          obtain ⟨X, hX⟩ : ∃ X, bk b1 j = X := ⟨_, rfl⟩
          rw [hX] at E0 E1 E2 E3 E4 E5 E6 HRQ HBT hm hov
          replace E1 := hid E1
          replace E2 := hid E2
          replace E3 := hid E3
          replace E4 := hid E4
          replace E5 := hid E5
          replace E6 := hid E6
          obtain ⟨ov1, ov2⟩ := overV_met hm
          obtain ⟨V, hV⟩ : ∃ V, overV X = V := ⟨_, rfl⟩
          have KV : Hid (∀ Y, Below wr.heap.size wr Y → Calls Try.prog 12 #[.agg #[.int .i64 X.rq.queue, .int .i64 X.rq.fr, .int .i64 X.rq.un, .int .i64 X.rq.kind, .slice X.rq.pa X.rq.pn X.rq.pc], .slice X.ba X.bn X.bc] Y fun e w' => e = .returned (.tuple #[.int .i64 V, .int .i64 0]) ∧ Below Y.heap.size Y w') := fun Y hY => by
            have := Over_any Y X.rq (RqIn.later HRQ hY) X.ba X.bn X.bc X.bs (HBT.later hY)
            rw [if_pos ov1, if_pos ov1, ← ov2, hV] at this
            exact this
          rw [hV] at hov
          have hov' : ¬ V ≤ t := by omega
          clear hcs HRQ HBT hm ov1 ov2 hV hX E0 hov hbel
          go_wp2_with fail
          go_cut [17, 18] (fun p q wx => ∃ Wn, Wn = wx ∧ p = .int .i64 V ∧ q = .int .i64 0 ∧ Below wr.heap.size wr wx)
          case first =>
            refine wp_region_des ((Try.f6.body.bind fun c => regOps c 9).getD #[]) (by kernel_rfl) [isV (.pointer (some ⟨A, 3, none⟩)), isV (.slice (some ⟨bb, bo, none⟩) n1 k9), isV (.int .i64 j), isV (.pointer (some ⟨bb, bo + j * 7, none⟩)), isV (.pointer (some ⟨bb, bo + j * 7 + 1, none⟩)), isV (.agg #[.int .i64 X.rq.queue, .int .i64 X.rq.fr, .int .i64 X.rq.un, .int .i64 X.rq.kind, .slice X.rq.pa X.rq.pn X.rq.pc]), isV (.pointer (some ⟨A, 3, none⟩)), isV (.slice (some ⟨bb, bo, none⟩) n1 k9), isV (.int .i64 j), isV (.pointer (some ⟨bb, bo + j * 7, none⟩)), isV (.pointer (some ⟨bb, bo + j * 7 + 6, none⟩)), isV (.slice X.ba X.bn X.bc), isV (.tuple #[.int .i64 V, .int .i64 0]), isV (.tuple #[.int .i64 V, .int .i64 0]), isV (.int .i64 V), isV (.int .i64 0), isV (.int .i64 V), isV (.int .i64 0)] [] (by kernel_rfl) (by kernel_rfl) (by kernel_rfl) ?hg ?hstep ?hfin
            case hg =>
              intro g hg v w h
              cases hg
            case hstep =>
              refine AllOps.cons 1 rfl ?_ ?_
              · intro T w' hb hl hd
                have h0 : T.getD 7 undef = .pointer (some ⟨A, 0, none⟩) := hl 7 (by kernel_rfl)
                exact Or.inl ⟨.pointer (some ⟨A, 3, none⟩), w', by go_simp, rfl, Below.refl _ _⟩
              refine AllOps.cons 2 rfl ?_ ?_
              · intro T w' hb hl hd
                have h0 : T.getD 55 undef = .pointer (some ⟨A, 3, none⟩) := hd 0 55 (by kernel_rfl)
                have cc := cell_later hb A3.out
                exact Or.inl ⟨.slice (some ⟨bb, bo, none⟩) n1 k9, w', by go_simp, rfl, Below.refl _ _⟩
              refine AllOps.cons 3 rfl ?_ ?_
              · intro T w' hb hl hd
                have h0 : T.getD 16 undef = .int .i64 j := hl 16 (by kernel_rfl)
                exact Or.inl ⟨.int .i64 j, w', by go_simp, rfl, Below.refl _ _⟩
              refine AllOps.cons 4 rfl ?_ ?_
              · intro T w' hb hl hd
                have h0 : T.getD 56 undef = .slice (some ⟨bb, bo, none⟩) n1 k9 := hd 1 56 (by kernel_rfl)
                have h1 : T.getD 57 undef = .int .i64 j := hd 2 57 (by kernel_rfl)
                exact Or.inl ⟨.pointer (some ⟨bb, bo + j * 7, none⟩), w', by go_simp, rfl, Below.refl _ _⟩
              refine AllOps.cons 5 rfl ?_ ?_
              · intro T w' hb hl hd
                have h0 : T.getD 58 undef = .pointer (some ⟨bb, bo + j * 7, none⟩) := hd 3 58 (by kernel_rfl)
                exact Or.inl ⟨.pointer (some ⟨bb, bo + j * 7 + 1, none⟩), w', by go_simp, rfl, Below.refl _ _⟩
              refine AllOps.cons 6 rfl ?_ ?_
              · intro T w' hb hl hd
                have h0 : T.getD 59 undef = .pointer (some ⟨bb, bo + j * 7 + 1, none⟩) := hd 4 59 (by kernel_rfl)
                have cc1 := cell_later hb E1.out
                have cc2 := cell_later hb E2.out
                have cc3 := cell_later hb E3.out
                have cc4 := cell_later hb E4.out
                have cc5 := cell_later hb E5.out
                exact Or.inl ⟨.agg #[.int .i64 X.rq.queue, .int .i64 X.rq.fr, .int .i64 X.rq.un, .int .i64 X.rq.kind, .slice X.rq.pa X.rq.pn X.rq.pc], w', by go_simp, rfl, Below.refl _ _⟩
              refine AllOps.cons 7 rfl ?_ ?_
              · intro T w' hb hl hd
                have h0 : T.getD 7 undef = .pointer (some ⟨A, 0, none⟩) := hl 7 (by kernel_rfl)
                exact Or.inl ⟨.pointer (some ⟨A, 3, none⟩), w', by go_simp, rfl, Below.refl _ _⟩
              refine AllOps.cons 8 rfl ?_ ?_
              · intro T w' hb hl hd
                have h0 : T.getD 61 undef = .pointer (some ⟨A, 3, none⟩) := hd 6 61 (by kernel_rfl)
                have cc := cell_later hb A3.out
                exact Or.inl ⟨.slice (some ⟨bb, bo, none⟩) n1 k9, w', by go_simp, rfl, Below.refl _ _⟩
              refine AllOps.cons 9 rfl ?_ ?_
              · intro T w' hb hl hd
                have h0 : T.getD 16 undef = .int .i64 j := hl 16 (by kernel_rfl)
                exact Or.inl ⟨.int .i64 j, w', by go_simp, rfl, Below.refl _ _⟩
              refine AllOps.cons 10 rfl ?_ ?_
              · intro T w' hb hl hd
                have h0 : T.getD 62 undef = .slice (some ⟨bb, bo, none⟩) n1 k9 := hd 7 62 (by kernel_rfl)
                have h1 : T.getD 63 undef = .int .i64 j := hd 8 63 (by kernel_rfl)
                exact Or.inl ⟨.pointer (some ⟨bb, bo + j * 7, none⟩), w', by go_simp, rfl, Below.refl _ _⟩
              refine AllOps.cons 11 rfl ?_ ?_
              · intro T w' hb hl hd
                have h0 : T.getD 64 undef = .pointer (some ⟨bb, bo + j * 7, none⟩) := hd 9 64 (by kernel_rfl)
                exact Or.inl ⟨.pointer (some ⟨bb, bo + j * 7 + 6, none⟩), w', by go_simp, rfl, Below.refl _ _⟩
              refine AllOps.cons 12 rfl ?_ ?_
              · intro T w' hb hl hd
                have h0 : T.getD 65 undef = .pointer (some ⟨bb, bo + j * 7 + 6, none⟩) := hd 10 65 (by kernel_rfl)
                have cc := cell_later hb E6.out
                exact Or.inl ⟨.slice X.ba X.bn X.bc, w', by go_simp, rfl, Below.refl _ _⟩
              refine AllOps.cons 13 rfl ?_ ?_
              · intro T w' hb hl hd
                have h0 : T.getD 60 undef = .agg #[.int .i64 X.rq.queue, .int .i64 X.rq.fr, .int .i64 X.rq.un, .int .i64 X.rq.kind, .slice X.rq.pa X.rq.pn X.rq.pc] := hd 5 60 (by kernel_rfl)
                have h1 : T.getD 66 undef = .slice X.ba X.bn X.bc := hd 11 66 (by kernel_rfl)
                refine Or.inr ⟨12, #[.agg #[.int .i64 X.rq.queue, .int .i64 X.rq.fr, .int .i64 X.rq.un, .int .i64 X.rq.kind, .slice X.rq.pa X.rq.pn X.rq.pc], .slice X.ba X.bn X.bc], by go_simp, ?_⟩
                refine (KV.out w' hb).mono ?_
                rintro e w'' ⟨rfl, hbb⟩
                exact ⟨_, rfl, rfl, hbb⟩
              refine AllOps.cons 14 rfl ?_ ?_
              · intro T w' hb hl hd
                have h0 : T.getD 67 undef = .tuple #[.int .i64 V, .int .i64 0] := hd 12 67 (by kernel_rfl)
                exact Or.inl ⟨.tuple #[.int .i64 V, .int .i64 0], w', by go_simp, rfl, Below.refl _ _⟩
              refine AllOps.cons 15 rfl ?_ ?_
              · intro T w' hb hl hd
                have h0 : T.getD 54 undef = .tuple #[.int .i64 V, .int .i64 0] := hd 13 54 (by kernel_rfl)
                exact Or.inl ⟨.int .i64 V, w', by go_simp, rfl, Below.refl _ _⟩
              refine AllOps.cons 16 rfl ?_ ?_
              · intro T w' hb hl hd
                have h0 : T.getD 54 undef = .tuple #[.int .i64 V, .int .i64 0] := hd 13 54 (by kernel_rfl)
                exact Or.inl ⟨.int .i64 0, w', by go_simp, rfl, Below.refl _ _⟩
              refine AllOps.cons 17 rfl ?_ ?_
              · intro T w' hb hl hd
                have h0 : T.getD 68 undef = .int .i64 V := hd 14 68 (by kernel_rfl)
                exact Or.inl ⟨.int .i64 V, w', by go_simp, rfl, Below.refl _ _⟩
              refine AllOps.cons 18 rfl ?_ ?_
              · intro T w' hb hl hd
                have h0 : T.getD 69 undef = .int .i64 0 := hd 15 69 (by kernel_rfl)
                exact Or.inl ⟨.int .i64 0, w', by go_simp, rfl, Below.refl _ _⟩
              exact trivial
            case hfin =>
              intro T w' hb hs hl hd
              have e17 : T.getD 17 undef = .int .i64 V := hd 16 17 (by kernel_rfl)
              have e18 : T.getD 18 undef = .int .i64 0 := hd 17 18 (by kernel_rfl)
              rw [lit_then [true, true, true, true, true, true, true, true, true, true, true, true, true, true, true, true, true, false, false, true, true, true, true, true, true, true, true, true, true, true, true, true, true, true, true, true, true, true, true, true, true, true, true, true, true, true, true, true, true, true, true, true, true, true, false, false, false, false, false, false, false, false, false, false, false, false, false, false, false, false, true, true, true, true, true, true, true, true, true, true, true, true, true, true, true, true, true, true, true, true, true, true, true, true, true, true, true, true, true, true, true, true, true, true, true, true, true, true, true, true, true, true, true, true, true, true] (by kernel_rfl) hs hl]
              obtain ⟨us, hus⟩ : ∃ us : Nat → Value, (fun d => T.getD d undef) = us := ⟨_, rfl⟩
              rw [hus]
              have f17 : us 17 = .int .i64 V := by rw [← hus]; exact e17
              have f18 : us 18 = .int .i64 0 := by rw [← hus]; exact e18
              apply_assumption
              simp only [fillL]
              go_meet
              exact ⟨_, rfl, f17, f18, hb⟩
          case rest =>
            obtain ⟨w5, rfl, rfl, rfl, hb⟩ := hcut
            have HB9 := hid (below_from HBE.out hb)
            clear hb a0 a1 a2 a3
            go_wp2
            go_roundw
            case rel => exact ⟨j + 1, by go_num, by omega, HB9.out⟩
            case measure => simp [intOf]; omega
        · obtain rfl : j = n1 := by omega
          clear hbel
          go_wp2_with fail
          refine (bookBegun_any wr).mono ?_
          rintro e w5 ⟨rfl, hb⟩
          have HB5 := hid (below_from HBE.out hb)
          obtain ⟨y0, y1, y2, y3⟩ := (HD3.out.later HB5.out).cells
          obtain ⟨z0, z1, z2, z3⟩ := (HG3.out.later HB5.out).cells
          clear hb a0 a1 a2 a3
          go_wp2_with fail
          refine (KSS.out w5 HB5.out).mono ?_
          rintro e w6 ⟨rfl, hb⟩
          have HB6 := hid (below_from HB5.out hb)
          obtain ⟨a0, a1, a2, a3⟩ := (HA3.out.later HB6.out).cells
          clear hb y0 y1 y2 y3 z0 z1 z2 z3
          go_wp2_with fail
          refine (KPC.out w6 HB6.out).mono ?_
          rintro e w7 ⟨rfl, hb⟩
          have HB7 := hid (below_from HB6.out hb)
          have HB8 := hid (below_from HB3.out HB7.out)
          clear hb a0 a1 a2 a3
          obtain ⟨a0, a1, a2, a3⟩ := (HA3.out.later HB7.out).cells
          obtain ⟨c0, c1, c2, c3⟩ := (HY3.out.later HB7.out).cells
          have htt : (t == t) = true := by simp
          go_wp2
          go_ret
          exact ⟨rfl, HB8.out⟩
    · obtain ⟨E, hEE⟩ : ∃ E, tickE t n l' b1 u = E := ⟨_, rfl⟩
      have HK2 := Tick_wrong U t n _ tn k1 l' _ n1 k9 b1 HSU.out u hF
      rw [hEE] at HK2 hF
      have hEn : (E != 0) = true := by simp [hF]
      replace HK2 := hid HK2
      clear hF eE hEE
      go_wp2_with fail
      rw [← HU.out]
      refine HK2.out.mono ?_
      rintro e w2 ⟨rfl, hb⟩
      obtain ⟨V2, hV2⟩ : ∃ V2, V2 = w2.alloc (.cells #[.int .i64 0, .int .i64 0, .slice none 0 0, .slice none 0 0] 25) := ⟨_, rfl⟩
      have HBV : Hid (Below w.heap.size w V2) := hid (by rw [hV2]; exact (below_from HBU.out hb).alloc (below_from HBU.out hb).size _)
      have HV2 := hid hV2
      clear hb hV2 a0 a1 a2 a3
      go_wp2_with fail
      rw [← HV2.out]
      refine (bookBegun_any V2).mono ?_
      rintro e w9 ⟨rfl, hb⟩
      have HB9 := hid (below_from HBV.out hb)
      clear hb
      go_wp2
      go_ret
      exact ⟨rfl, HB9.out⟩
  · obtain ⟨E, hEE⟩ : ∃ E, tickE c n l b t = E := ⟨_, rfl⟩
    have HK := Tick_wrong W1 c n ta tn tc l ba bn bc b (h.later hb0) t hE
    rw [hEE] at HK hE
    have hEn : (E != 0) = true := by simp [hE]
    replace HK := hid HK
    clear hE hEE hb0 h hbl
    go_enter Try.func6, Try.ntmps6
    go_wp2_with fail
    rw [← HW1.out]
    refine HK.out.mono ?_
    rintro e w1 ⟨rfl, hb⟩
    obtain ⟨U, hU⟩ : ∃ U, U = w1.alloc (.cells #[.int .i64 0, .int .i64 0, .slice none 0 0, .slice none 0 0] 25) := ⟨_, rfl⟩
    obtain ⟨A, hA⟩ : ∃ A, w1.heap.size = A := ⟨_, rfl⟩
    have hbU : Below w1.heap.size w1 U := by rw [hU]; exact (Below.refl _ _).alloc (Nat.le_refl _) _
    have HA : Hid (StBox U A (.int .i64 0) (.int .i64 0) (.slice none 0 0) (.slice none 0 0)) := hid (by rw [hU, ← hA]; exact StBox.new w1 _ _ _ _)
    have HBU := hid (below_from (below_from HB0.out hb) hbU)
    have HU := hid hU
    have HK2 := hid (Tick_wrong U 0 0 none 0 0 [] none 0 0 [] (none_state U) u (none_tick u))
    clear hb hU hbU c0 c1 c2 c3
    obtain ⟨a0, a1, a2, a3⟩ := HA.out.cells
    rw [HU.out] at a0 a1 a2 a3
    go_wp2_with fail
    rw [← HU.out]
    refine HK2.out.mono ?_
    rintro e w2 ⟨rfl, hb⟩
    obtain ⟨V2, hV2⟩ : ∃ V2, V2 = w2.alloc (.cells #[.int .i64 0, .int .i64 0, .slice none 0 0, .slice none 0 0] 25) := ⟨_, rfl⟩
    have HBV : Hid (Below w.heap.size w V2) := hid (by rw [hV2]; exact (below_from HBU.out hb).alloc (below_from HBU.out hb).size _)
    have HV2 := hid hV2
    clear hb hV2 a0 a1 a2 a3
    go_wp2_with fail
    rw [← HV2.out]
    refine (bookBegun_any V2).mono ?_
    rintro e w9 ⟨rfl, hb⟩
    have HB9 := hid (below_from HBV.out hb)
    clear hb
    go_wp2
    go_ret
    exact ⟨rfl, HB9.out⟩

set_option maxRecDepth 100000 in
theorem BookTime_lifted (os : Os) (started : os.Started) (H : Type) (enc : TypeId × Value → H) :
    ReturnsInHanded {} Try.checked os 6 .any (Rows.bookTimeSpec.pre6 enc Try.prog Try.f6 Rows.bookTimeRow.domain false) (Rows.bookTimeSpec.post enc Try.prog Try.f6 false true false false) := by
  refine returnsInHanded_of_change (C := Try.checked) own started (by kernel_rfl) Try.func6
    (ChangeSpec.witness6 (enc := enc) (C := Try.checked) false ⟨#[], #[.agg #[.int .i64 0, .int .i64 0, .slice none 0 0, .slice none 0 0], .int .i64 0, .int .i64 0], []⟩ 8 (by kernel_rfl) (by kernel_rfl) (by kernel_rfl) (by kernel_rfl)) ?_
  intro W base args ds gs before hval0 hW hcnd _
  have hval : ∀ (j : Nat) t v, Try.f6.params[j]? = some t → args[j]? = some v → Value.okWide Try.prog W .any base t v := hval0
  have hW' := hW
  obtain ⟨p, q, hA0, hV, rfl, hfz, hnd⟩ := hW
  have hA : DataW.TrodAll enc Try.prog W 0 (fun _ => true) true Try.f6.params.toList args.toList ds p := hA0
  rw [Try.params6] at hA hval
  obtain ⟨v0, vs0, d0, ds0, p0, q0, hargs, rfl, rfl, h0, r0⟩ := trodAll_cons hA
  obtain ⟨v1, vs1, d1, ds1, p1, q1, rfl, rfl, rfl, h1, r1⟩ := trodAll_cons r0
  obtain ⟨v2, vs2, d2, ds2, p2, q2, rfl, rfl, rfl, h2, r2⟩ := trodAll_cons r1
  obtain ⟨rfl, rfl, rfl⟩ := trodAll_nil r2
  obtain rfl : args = #[v0, v1, v2] := by cases args; simp_all
  obtain ⟨rfl, rfl⟩ := trodVars_none hV
  have k0 := h0
  have lt0 : ∀ x ∈ p0, x.block < W.heap.size := by obtain ⟨m, hm⟩ := k0; exact DataW.trod_lt m _ _ _ hm
  obtain ⟨sc0, sn0, sta0, stn0, stc0, sl0, sba0, sbn0, sbc0, sb0, rfl, w0⟩ := st_arg (hval 0 25 v0 rfl rfl) h0
  obtain ⟨a1, rfl, rfl, rfl, w1⟩ := open_int Try.underlying3 (hval 1 3 v1 rfl rfl) h1
  have b1 := wf_range w1
  obtain ⟨a2, rfl, rfl, rfl, w2⟩ := open_int Try.underlying3 (hval 2 3 v2 rfl rfl) h2
  have b2 := wf_range w2
  clear hA0 hval0
  refine (BookTime_walk W sc0 sn0 sta0 stn0 stc0 sl0 sba0 sbn0 sbc0 sb0 w0 a1 b1.1 b1.2 a2 b2.1 b2.2).mono fun e W' ⟨he, bel⟩ => ?_
  subst he
  exact ⟨_, rfl, _, _, _, [], _, [], hW', trodAll_mk1 (shut_bool Try.underlying4 _), (trodAll_cons_mk (Below.trod laidOut (by kernel_rfl) (of_decide_eq_true (by kernel_rfl)) k0 bel lt0) (trodAll_cons_mk (shut_int Try.underlying3 w1) (trodAll_cons_mk (shut_int Try.underlying3 w2) trodAll_mk0))), rfl, bel.frame _, fun h => by cases h⟩

theorem BookTime_holds : Rows.BookTimeSaid :=
  OpenClaim.holds_of_wide 6 Try.f6 rfl rfl rfl rfl rfl rfl rfl ⟨rfl, rfl, rfl, rfl, rfl⟩ rfl rfl rfl rfl rfl (by kernel_rfl) Try.func6 (by kernel_rfl)
    (of_decide_eq_true (by kernel_rfl)) (by unfold Func.isWrapper; first | (rw [if_pos (by decide +kernel)]; kernel_rfl) | (rw [if_neg (by decide +kernel)]; exact ⟨rfl, rfl⟩))
    (fun os started H enc _ => BookTime_lifted os started H enc)
#print axioms BookTime_holds
end Go.Proofs.Ytcgchicdmgllaad
