/- Several texts in one: ChgG, Bulk. -/
import Derived.Test.YtecibbokbonmcaeGreatKAll0
import Derived.Test.YtecibbokbonmcaeGreatKAll7
import Derived.Test.YtecibbokbonmcaeGreatKAll8
import Derived.Deep.LoopGhost
import Derived.Deep.DeepCutAuto
import Derived.Test.YtecibbokbonmcaeGreatKAll2
import Derived.JoinedCond
/- The statement CutTrue: its function answers yes, whatever comes in. -/
namespace Go.Proofs.YtecibbokbonmcaeGreat
open Go.RowKit

/-- so many of the first i are that -/
def cntTo (l : List Int) (x : Int) (i : Nat) : Int := ((l.take i).count x : Nat)
theorem cntTo_next {l : List Int} {x : Int} {i : Nat} (hi : i < l.length) : cntTo l x (i + 1) = if (l.getD i 0 == x) = true then cntTo l x i + 1 else cntTo l x i := by
  unfold cntTo
  rw [List.take_succ_eq_append_getElem hi, List.count_append]
  have e : l.getD i 0 = l[i] := by simp [List.getD, hi]
  rw [e]
  by_cases h : (l[i] == x) = true
  · rw [if_pos h]
    have h' := beq_iff_eq.1 h
    rw [h']
    simp
  · rw [if_neg h]
    have h' : l[i] ≠ x := fun e => h (beq_iff_eq.2 e)
    have h0 : List.count x [l[i]] = 0 := List.count_eq_zero.2 (fun hm => h' (List.mem_singleton.1 hm).symm)
    rw [h0]
    rfl
theorem cntTo_all (l : List Int) (x : Int) : cntTo l x l.length = (l.count x : Nat) := by unfold cntTo; rw [List.take_length]
theorem cntTo_bd (l : List Int) (x : Int) (i : Nat) : 0 ≤ cntTo l x i ∧ cntTo l x i ≤ i := by
  unfold cntTo
  have h1 := List.count_le_length (a := x) (l := l.take i)
  have h2 : (l.take i).length ≤ i := by simp; omega
  omega

set_option maxRecDepth 100000 in
set_option maxHeartbeats 8000000 in
theorem CutTrue_any (w : World) (c n : Int) (ta : Option Addr) (tn tc : Nat) (l : QL) (ba : Option Addr) (bn bc : Nat) (b : BL) (h : StIn w ta tn tc l ba bn bc b) (q : Int) (ra : Option Addr) (rn rc : Nat) (rs : RunL) (hr : RunsIn w ra rn rc rs) (hrn : rn ≤ 1048576) :
    Calls Tryz.prog 4 #[.agg #[.int .i64 c, .int .i64 n, .slice ta tn tc, .slice ba bn bc], .int .i64 q, .slice ra rn rc] w fun e w' => e = .returned (.bool true) ∧ Below w.heap.size w w' := by
  obtain ⟨S, hS⟩ : ∃ S, w.heap.size = S := ⟨_, rfl⟩
  obtain ⟨W1, hW1⟩ : ∃ W1, W1 = w.alloc (.cells #[.int .i64 c, .int .i64 n, .slice ta tn tc, .slice ba bn bc] 25) := ⟨_, rfl⟩
  have hb0 : Below w.heap.size w W1 := by rw [hW1]; exact (Below.refl _ _).alloc (Nat.le_refl _) _
  have x1 : StBox W1 S (.int .i64 c) (.int .i64 n) (.slice ta tn tc) (.slice ba bn bc) := by rw [hW1, ← hS]; exact StBox.new w _ _ _ _
  have K1 := hid (Change_all W1 c n ta tn tc l ba bn bc b (h.later hb0) q ra rn rc rs (hr.later hb0) hrn)
  have HH := hid (h.later hb0)
  have HBL := hid h.2.len
  have X1 := hid x1
  have HB0 := hid hb0
  have HW1 := hid hW1
  obtain ⟨c0, c1, c2, c3⟩ := x1.cells
  clear x1 hb0 hW1 h hr
  go_enter Tryz.func4, Tryz.ntmps4
  go_wp2_with fail
  rw [← HW1.out]
  refine K1.out.mono ?_
  rintro e w1 (⟨E, hE, rfl, hb⟩ | ⟨hp, hq0, hq1, ht, hch⟩)
  · have hne : (E != 0) = true := by simp [hE]
    obtain ⟨U1, hU⟩ : ∃ U, U = w1.alloc (.cells #[.int .i64 0, .int .i64 0, .slice none 0 0, .slice none 0 0] 25) := ⟨_, rfl⟩
    have HBU := hid (below_from (below_from HB0.out hb) (show Below w1.heap.size w1 U1 by rw [hU]; exact (Below.refl _ _).alloc (Nat.le_refl _) _))
    have HU := hid hU
    clear hb hU c0 c1 c2 c3
    go_wp2_with fail
    rw [← HU.out]
    refine (cutBegun_any U1).mono ?_
    rintro e w2 ⟨rfl, hb⟩
    have HB2 := hid (below_from HBU.out hb)
    clear hb
    go_wp2
    go_ret
    exact ⟨rfl, HB2.out⟩
  · obtain ⟨g, k1, l9, aa, k9, b9, mv, dr, ma, mk, da, dk, rfl, hs, hp9, hlen, ⟨hm12, hd12, hb12⟩, hround, hmi, hdi, hb⟩ := hch.true hp ht
    obtain ⟨U1, hU⟩ : ∃ U, U = w1.alloc (.cells #[.int .i64 c, .int .i64 n, .slice (some ⟨g, 0, none⟩) tn k1, .slice aa b9.length k9] 25) := ⟨_, rfl⟩
    have hbU : Below w1.heap.size w1 U1 := by rw [hU]; exact (Below.refl _ _).alloc (Nat.le_refl _) _
    obtain ⟨X, hX⟩ : ∃ X, w1.heap.size = X := ⟨_, rfl⟩
    have x2 : StBox U1 X (.int .i64 c) (.int .i64 n) (.slice (some ⟨g, 0, none⟩) tn k1) (.slice aa b9.length k9) := by rw [hU, ← hX]; exact StBox.new w1 _ _ _ _
    have KC := CheckS_any U1 c n _ tn k1 l9 aa b9.length k9 b9 (hs.later hbU)
    rw [hp9] at KC
    have HKC := hid KC
    have HX := hid x2
    have HSB := hid ((X1.out.later hb).later hbU)
    have HBU := hid (below_from (below_from HB0.out hb) hbU)
    have HS9 := hid (hs.later hbU)
    have HST := hid ((HH.out.later hb).later hbU)
    have HMI := hid (hmi.later hbU)
    have HDI := hid (hdi.later hbU)
    have HRD := hid hround
    have HU := hid hU
    obtain ⟨d0, d1, d2, d3⟩ := x2.cells
    rw [hU] at d0 d1 d2 d3
    clear hp hq0 hq1 ht hch hs hp9 hround hmi hdi hb hU hbU x2 KC c0 c1 c2 c3 HH K1
    go_wp2_with fail
    rw [← HU.out]
    refine HKC.out.mono ?_
    rintro e w2 ⟨rfl, hb⟩
    have hX2 := HX.out.later hb
    have hS2 := HSB.out.later hb
    have HX2 := hid hX2
    have HS2 := hid hS2
    have HB2 := hid (below_from HBU.out hb)
    have HS92 := hid (HS9.out.later hb)
    have HST2 := hid (HST.out.later hb)
    have HMI2 := hid (HMI.out.later hb)
    have HDI2 := hid (HDI.out.later hb)
    clear hb d0 d1 d2 d3 HS9 HST HMI HDI HX HSB
    obtain ⟨d0, d1, d2, d3⟩ := hX2.cells
    obtain ⟨s0, s1, s2, s3⟩ := hS2.cells
    have hbl := HBL.out
    have hsum : ((b9.length : Int) + dr.length != bn) = false := by simp; omega
    have hb912 : b9.length ≤ 12 := by omega
    have hbn12 : bn ≤ 12 := by omega
    clear hX2 hS2 hbl
    go_wp2_with fail
    go_loopg [11] bn (fun gk (p : Value) wr => ∃ k : Nat, p = .int .i64 k ∧ k ≤ bn ∧ gk = bn - k ∧ Below w2.heap.size w2 wr)
    case atStart => exact ⟨0, rfl, by omega, by omega, Below.refl _ _⟩
    case round =>
      obtain ⟨k, rfl, hk, rfl, hbr⟩ := hrel
      have HBR := hid hbr
      have HXR := hid (HX2.out.later hbr)
      have HSR := hid (HS2.out.later hbr)
      clear d0 d1 d2 d3 s0 s1 s2 s3 hbr
      obtain ⟨d0, d1, d2, d3⟩ := HXR.out.cells
      obtain ⟨s0, s1, s2, s3⟩ := HSR.out.cells
      by_cases hlt : k < bn
      · have hlt' : (k : Int) < bn := by omega
        obtain ⟨b0, o0, rfl, hc⟩ := (HST2.out.later HBR.out).2.cells (by omega)
        have hle := (HST2.out.later HBR.out).2.le
        have hcb := (HST2.out.later HBR.out).2.capb
        obtain ⟨Y, hY⟩ : ∃ Y, bk b k = Y := ⟨_, rfl⟩
        have c0 := (hc k hlt).1
        rw [hY] at c0
        have HC := hid hc
        have HY := hid hY
        clear hc hY
        go_wp2_with fail
        go_loopg [13, 15] mv.length (fun gk (u i : Value) wz => ∃ j : Nat, i = .int .i64 j ∧ u = .int .i64 (cntTo mv Y.id j) ∧ j ≤ mv.length ∧ gk = mv.length - j ∧ wz = wr)
        case atStart => exact ⟨0, rfl, rfl, by omega, by omega, rfl⟩
        case round =>
          obtain ⟨j, rfl, rfl, hj, rfl, rfl⟩ := hrel
          by_cases hjl : j < mv.length
          · have hjl' : (j : Int) < mv.length := by omega
            obtain ⟨bm, om, rfl, hcm⟩ := (HMI2.out.later HBR.out).cells (by omega)
            have hmle := HMI2.out.le
            have hmcb := HMI2.out.capb
            have m0 := hcm j hjl
            obtain ⟨z, hz⟩ : ∃ z, mv.getD j 0 = z := ⟨_, rfl⟩
            rw [hz] at m0
            have hnx := cntTo_next (x := Y.id) hjl
            rw [hz] at hnx
            have hbd := cntTo_bd mv Y.id j
            obtain ⟨u, hu⟩ : ∃ u, cntTo mv Y.id j = u := ⟨_, rfl⟩
            rw [hu] at hnx hbd ⊢
            have HNX := hid hnx
            clear hcm hz hnx hu
            cases hzy : z == Y.id with
            | true =>
              go_wp2
              go_roundg (mv.length - (j + 1))
              case rel => exact ⟨j + 1, by go_num, by rw [HNX.out, if_pos hzy], by omega, by omega, rfl⟩
              case measure => omega
            | false =>
              go_wp2
              go_roundg (mv.length - (j + 1))
              case rel => exact ⟨j + 1, by go_num, by rw [HNX.out, if_neg (by rw [hzy]; decide)], by omega, by omega, rfl⟩
              case measure => omega
          · obtain rfl : j = mv.length := by omega
            rw [cntTo_all]
            go_wp2_with fail
            go_loopg [14, 16] dr.length (fun gk (u i : Value) wz => ∃ j : Nat, i = .int .i64 j ∧ u = .int .i64 (cntTo dr Y.id j) ∧ j ≤ dr.length ∧ gk = dr.length - j ∧ wz = wr)
            case atStart => exact ⟨0, rfl, rfl, by omega, by omega, rfl⟩
            case round =>
              obtain ⟨j, rfl, rfl, hj, rfl, rfl⟩ := hrel
              by_cases hjl : j < dr.length
              · have hjl' : (j : Int) < dr.length := by omega
                obtain ⟨bm, om, rfl, hcm⟩ := (HDI2.out.later HBR.out).cells (by omega)
                have hmle := HDI2.out.le
                have hmcb := HDI2.out.capb
                have m0 := hcm j hjl
                obtain ⟨z, hz⟩ : ∃ z, dr.getD j 0 = z := ⟨_, rfl⟩
                rw [hz] at m0
                have hnx := cntTo_next (x := Y.id) hjl
                rw [hz] at hnx
                have hbd := cntTo_bd dr Y.id j
                obtain ⟨u, hu⟩ : ∃ u, cntTo dr Y.id j = u := ⟨_, rfl⟩
                rw [hu] at hnx hbd ⊢
                have HNX := hid hnx
                clear hcm hz hnx hu
                cases hzy : z == Y.id with
                | true =>
                  go_wp2
                  go_roundg (dr.length - (j + 1))
                  case rel => exact ⟨j + 1, by go_num, by rw [HNX.out, if_pos hzy], by omega, by omega, rfl⟩
                  case measure => omega
                | false =>
                  go_wp2
                  go_roundg (dr.length - (j + 1))
                  case rel => exact ⟨j + 1, by go_num, by rw [HNX.out, if_neg (by rw [hzy]; decide)], by omega, by omega, rfl⟩
                  case measure => omega
              · obtain rfl : j = dr.length := by omega
                rw [cntTo_all]
                have KF := FindS_any wr c n _ tn k1 l9 aa b9.length k9 b9 (HS92.out.later HBR.out) Y.id
                have hro := HRD.out k (by have := HBL.out; omega)
                rw [HY.out] at hro
                obtain ⟨u1, hu1⟩ : ∃ u, mv.count Y.id = u := ⟨_, rfl⟩
                obtain ⟨u2, hu2⟩ : ∃ u, dr.count Y.id = u := ⟨_, rfl⟩
                unfold RoundOk at hro
                rw [hu1, hu2] at hro ⊢
                obtain ⟨fe, hfe⟩ : ∃ f, findE c n l9 b9 Y.id = f := ⟨_, rfl⟩
                obtain ⟨fi, hfi⟩ : ∃ f, findI c n l9 b9 Y.id = f := ⟨_, rfl⟩
                rw [hfe, hfi] at hro KF
                have HKF := hid KF
                clear KF hu1 hu2 hfe hfi
                go_wp2_with fail
                refine HKF.out.mono ?_
                rintro e w3 ⟨rfl, hb3⟩
                have HB3 := hid (below_from HBR.out hb3)
                have HX3 := hid (HXR.out.later hb3)
                have HS3 := hid (HSR.out.later hb3)
                clear d0 d1 d2 d3 s0 s1 s2 s3 c0
                obtain ⟨d0, d1, d2, d3⟩ := HX3.out.cells
                obtain ⟨s0, s1, s2, s3⟩ := HS3.out.cells
                rcases hro with ⟨rfl, rfl, i, hi, rfl, rfl, hrq, hbs⟩ | ⟨rfl, rfl, i, hi, rfl, rfl, hrq, hbs⟩ | ⟨rfl, rfl, rfl⟩
                · have hbk9 := (HS92.out.later (below_from HBR.out hb3)).2
                  obtain ⟨g9, o9, rfl, hc9⟩ := hbk9.cells (by omega)
                  have hk9le := hbk9.le
                  have hk9cb := hbk9.capb
                  have hZr := hbk9.rqs i hi
                  have hZb := hbk9.bites i hi
                  obtain ⟨Z0, Z1, Z2, Z3, Z4, Z5, Z6⟩ := hc9 i hi
                  obtain ⟨_, Y1, Y2, Y3, Y4, Y5, Y6⟩ := (by have h7 := HC.out k hlt; rw [HY.out] at h7; exact h7 : _ ∧ _ ∧ _ ∧ _ ∧ _ ∧ _ ∧ _)
                  have hYr := ((HST2.out.later (below_from HBR.out hb3)).2).rqs k hlt
                  have hYb := ((HST2.out.later (below_from HBR.out hb3)).2).bites k hlt
                  rw [HY.out] at hYr hYb
                  obtain ⟨Z, hZ⟩ : ∃ Z, bk b9 i = Z := ⟨_, rfl⟩
                  rw [hZ] at hZr hZb Z1 Z2 Z3 Z4 Z5 Z6 hrq hbs
                  replace Z1 := hid Z1
                  replace Y1 := hid (cell_later hb3 Y1)
                  replace Z2 := hid Z2
                  replace Y2 := hid (cell_later hb3 Y2)
                  replace Z3 := hid Z3
                  replace Y3 := hid (cell_later hb3 Y3)
                  replace Z4 := hid Z4
                  replace Y4 := hid (cell_later hb3 Y4)
                  replace Z5 := hid Z5
                  replace Y5 := hid (cell_later hb3 Y5)
                  replace Z6 := hid Z6
                  replace Y6 := hid (cell_later hb3 Y6)
                  have KR := hid fun V (hV : Below w3.heap.size w3 V) => SameReqs_same V Z.rq Y.rq (RqIn.later hZr hV) (RqIn.later hYr hV) hrq
                  have hZn : Z.bn = Y.bn := hZb.len.trans ((congrArg List.length hbs).trans hYb.len.symm)
                  have KB : Hid (∀ V, Below w3.heap.size w3 V → Calls Tryz.prog 18 #[.slice Z.ba Z.bn Z.bc, .slice Y.ba Y.bn Y.bc] V fun e w' => e = .returned (.bool true) ∧ Below V.heap.size V w') := fun V hV => by
                    have g1 := hZb.later hV
                    have g2 := hYb.later hV
                    rw [hbs, hZn] at g1
                    rw [hZn]
                    refine (SameBites_same V _ _ Y.bn _ _ Y.bs g1 g2).mono ?_
                    rintro e w' ⟨rfl, d, rfl⟩
                    exact ⟨rfl, below_drewN V d⟩
                  have D3 := hid d3
                  have S3 := hid s3
                  have S0 := hid s0
                  have HZB := hid hZb
                  have HBS := hid hbs
                  have hi' : (i : Int) < b9.length := by omega
                  clear hbk9 hc9 hZr hYr hYb hrq hbs Z0 hZ hZb hZn
                  go_wp2_with fail
                  go_cut [149] (fun p wx => ∃ Wn, Wn = wx ∧ p = .bool false ∧ Below w3.heap.size w3 wx)
                  case first =>
                    refine wp_region_des ((Tryz.f4.body.bind fun c => regOps c 25).getD #[]) (by kernel_rfl) [isV (.int .i64 0), isV (.bool false), isV (.bool false), isV (.int .i64 i), isV (.bool false), isV (.bool false), isV (.bool false), isV (.int .i64 i), isV (.pointer (some ⟨X, 3, none⟩)), isV (.slice (some ⟨g9, o9, none⟩) b9.length k9), isV (.int .i64 (b9.length : Nat)), isV (.bool false), isV (.bool false), isV (.bool false), isV (.pointer (some ⟨X, 3, none⟩)), isV (.slice (some ⟨g9, o9, none⟩) b9.length k9), isV (.int .i64 i), isV (.pointer (some ⟨g9, o9 + i * 7, none⟩)), isV (.pointer (some ⟨g9, o9 + i * 7 + 1, none⟩)), isV (.agg #[.int .i64 Z.rq.queue, .int .i64 Z.rq.fr, .int .i64 Z.rq.un, .int .i64 Z.rq.kind, .slice Z.rq.pa Z.rq.pn Z.rq.pc]), isV (.pointer (some ⟨S, 3, none⟩)), isV (.slice (some ⟨b0, o0, none⟩) bn bc), isV (.int .i64 k), isV (.pointer (some ⟨b0, o0 + k * 7, none⟩)), isV (.pointer (some ⟨b0, o0 + k * 7 + 1, none⟩)), isV (.agg #[.int .i64 Y.rq.queue, .int .i64 Y.rq.fr, .int .i64 Y.rq.un, .int .i64 Y.rq.kind, .slice Y.rq.pa Y.rq.pn Y.rq.pc]), isV (.bool true), isV (.bool false), isV (.bool false)] [(2, false), (6, false), (13, false)] (by kernel_rfl) (by kernel_rfl) (by kernel_rfl) ?hg ?hstep ?hfin
                    case hg =>
                      intro g hg v w h
                      simp only [List.mem_cons, List.not_mem_nil, or_false] at hg
                      rcases hg with rfl | rfl | rfl <;> exact h
                    case hstep =>
                      refine AllOps.cons 1 rfl ?_ ?_
                      · intro T w' hb hl hd
                        have h0 : T.getD 18 undef = .int .i64 0 := hl 18 (by kernel_rfl)
                        exact Or.inl ⟨.int .i64 0, w', by go_simp, rfl, Below.refl _ _⟩
                      refine AllOps.cons 2 rfl ?_ ?_
                      · intro T w' hb hl hd
                        have h0 : T.getD 121 undef = .int .i64 0 := hd 0 121 (by kernel_rfl)
                        exact Or.inl ⟨.bool false, w', by go_simp, rfl, Below.refl _ _⟩
                      refine AllOps.cons 3 rfl ?_ ?_
                      · intro T w' hb hl hd
                        have h0 : T.getD 122 undef = .bool false := hd 1 122 (by kernel_rfl)
                        exact Or.inl ⟨.bool false, w', by go_simp, rfl, Below.refl _ _⟩
                      refine AllOps.cons 4 rfl ?_ ?_
                      · intro T w' hb hl hd
                        have h0 : T.getD 17 undef = .int .i64 i := hl 17 (by kernel_rfl)
                        exact Or.inl ⟨.int .i64 i, w', by go_simp, rfl, Below.refl _ _⟩
                      refine AllOps.cons 5 rfl ?_ ?_
                      · intro T w' hb hl hd
                        have h0 : T.getD 124 undef = .int .i64 i := hd 3 124 (by kernel_rfl)
                        have q1 : decide ((i : Int) < 0) = false := by simp
                        exact Or.inl ⟨.bool false, w', by go_simp, rfl, Below.refl _ _⟩
                      refine AllOps.cons 6 rfl ?_ ?_
                      · intro T w' hb hl hd
                        have h0 : T.getD 123 undef = .bool false := hd 2 123 (by kernel_rfl)
                        have h1 : T.getD 125 undef = .bool false := hd 4 125 (by kernel_rfl)
                        exact Or.inl ⟨.bool false, w', by go_simp, rfl, Below.refl _ _⟩
                      refine AllOps.cons 7 rfl ?_ ?_
                      · intro T w' hb hl hd
                        have h0 : T.getD 126 undef = .bool false := hd 5 126 (by kernel_rfl)
                        exact Or.inl ⟨.bool false, w', by go_simp, rfl, Below.refl _ _⟩
                      refine AllOps.cons 8 rfl ?_ ?_
                      · intro T w' hb hl hd
                        have h0 : T.getD 17 undef = .int .i64 i := hl 17 (by kernel_rfl)
                        exact Or.inl ⟨.int .i64 i, w', by go_simp, rfl, Below.refl _ _⟩
                      refine AllOps.cons 9 rfl ?_ ?_
                      · intro T w' hb hl hd
                        have h0 : T.getD 7 undef = .pointer (some ⟨X, 0, none⟩) := hl 7 (by kernel_rfl)
                        exact Or.inl ⟨.pointer (some ⟨X, 3, none⟩), w', by go_simp, rfl, Below.refl _ _⟩
                      refine AllOps.cons 10 rfl ?_ ?_
                      · intro T w' hb hl hd
                        have h0 : T.getD 129 undef = .pointer (some ⟨X, 3, none⟩) := hd 8 129 (by kernel_rfl)
                        have cc := cell_later hb D3.out
                        exact Or.inl ⟨.slice (some ⟨g9, o9, none⟩) b9.length k9, w', by go_simp, rfl, Below.refl _ _⟩
                      refine AllOps.cons 11 rfl ?_ ?_
                      · intro T w' hb hl hd
                        have h0 : T.getD 130 undef = .slice (some ⟨g9, o9, none⟩) b9.length k9 := hd 9 130 (by kernel_rfl)
                        exact Or.inl ⟨.int .i64 (b9.length : Nat), w', by go_simp, rfl, Below.refl _ _⟩
                      refine AllOps.cons 12 rfl ?_ ?_
                      · intro T w' hb hl hd
                        have h0 : T.getD 128 undef = .int .i64 i := hd 7 128 (by kernel_rfl)
                        have h1 : T.getD 131 undef = .int .i64 (b9.length : Nat) := hd 10 131 (by kernel_rfl)
                        have q1 : ¬ ((b9.length : Int) ≤ i) := by omega
                        exact Or.inl ⟨.bool false, w', by go_simp, rfl, Below.refl _ _⟩
                      refine AllOps.cons 13 rfl ?_ ?_
                      · intro T w' hb hl hd
                        have h0 : T.getD 127 undef = .bool false := hd 6 127 (by kernel_rfl)
                        have h1 : T.getD 132 undef = .bool false := hd 11 132 (by kernel_rfl)
                        exact Or.inl ⟨.bool false, w', by go_simp, rfl, Below.refl _ _⟩
                      refine AllOps.cons 14 rfl ?_ ?_
                      · intro T w' hb hl hd
                        have h0 : T.getD 133 undef = .bool false := hd 12 133 (by kernel_rfl)
                        exact Or.inl ⟨.bool false, w', by go_simp, rfl, Below.refl _ _⟩
                      refine AllOps.cons 15 rfl ?_ ?_
                      · intro T w' hb hl hd
                        have h0 : T.getD 7 undef = .pointer (some ⟨X, 0, none⟩) := hl 7 (by kernel_rfl)
                        exact Or.inl ⟨.pointer (some ⟨X, 3, none⟩), w', by go_simp, rfl, Below.refl _ _⟩
                      refine AllOps.cons 16 rfl ?_ ?_
                      · intro T w' hb hl hd
                        have h0 : T.getD 135 undef = .pointer (some ⟨X, 3, none⟩) := hd 14 135 (by kernel_rfl)
                        have cc := cell_later hb D3.out
                        exact Or.inl ⟨.slice (some ⟨g9, o9, none⟩) b9.length k9, w', by go_simp, rfl, Below.refl _ _⟩
                      refine AllOps.cons 17 rfl ?_ ?_
                      · intro T w' hb hl hd
                        have h0 : T.getD 17 undef = .int .i64 i := hl 17 (by kernel_rfl)
                        exact Or.inl ⟨.int .i64 i, w', by go_simp, rfl, Below.refl _ _⟩
                      refine AllOps.cons 18 rfl ?_ ?_
                      · intro T w' hb hl hd
                        have h0 : T.getD 136 undef = .slice (some ⟨g9, o9, none⟩) b9.length k9 := hd 15 136 (by kernel_rfl)
                        have h1 : T.getD 137 undef = .int .i64 i := hd 16 137 (by kernel_rfl)
                        exact Or.inl ⟨.pointer (some ⟨g9, o9 + i * 7, none⟩), w', by go_simp, rfl, Below.refl _ _⟩
                      refine AllOps.cons 19 rfl ?_ ?_
                      · intro T w' hb hl hd
                        have h0 : T.getD 138 undef = .pointer (some ⟨g9, o9 + i * 7, none⟩) := hd 17 138 (by kernel_rfl)
                        exact Or.inl ⟨.pointer (some ⟨g9, o9 + i * 7 + 1, none⟩), w', by go_simp, rfl, Below.refl _ _⟩
                      refine AllOps.cons 20 rfl ?_ ?_
                      · intro T w' hb hl hd
                        have h0 : T.getD 139 undef = .pointer (some ⟨g9, o9 + i * 7 + 1, none⟩) := hd 18 139 (by kernel_rfl)
                        have cc1 := cell_later hb Z1.out
                        have cc2 := cell_later hb Z2.out
                        have cc3 := cell_later hb Z3.out
                        have cc4 := cell_later hb Z4.out
                        have cc5 := cell_later hb Z5.out
                        exact Or.inl ⟨.agg #[.int .i64 Z.rq.queue, .int .i64 Z.rq.fr, .int .i64 Z.rq.un, .int .i64 Z.rq.kind, .slice Z.rq.pa Z.rq.pn Z.rq.pc], w', by go_simp, rfl, Below.refl _ _⟩
                      refine AllOps.cons 21 rfl ?_ ?_
                      · intro T w' hb hl hd
                        have h0 : T.getD 3 undef = .pointer (some ⟨S, 0, none⟩) := hl 3 (by kernel_rfl)
                        exact Or.inl ⟨.pointer (some ⟨S, 3, none⟩), w', by go_simp, rfl, Below.refl _ _⟩
                      refine AllOps.cons 22 rfl ?_ ?_
                      · intro T w' hb hl hd
                        have h0 : T.getD 141 undef = .pointer (some ⟨S, 3, none⟩) := hd 20 141 (by kernel_rfl)
                        have cc := cell_later hb S3.out
                        exact Or.inl ⟨.slice (some ⟨b0, o0, none⟩) bn bc, w', by go_simp, rfl, Below.refl _ _⟩
                      refine AllOps.cons 23 rfl ?_ ?_
                      · intro T w' hb hl hd
                        have h0 : T.getD 11 undef = .int .i64 k := hl 11 (by kernel_rfl)
                        exact Or.inl ⟨.int .i64 k, w', by go_simp, rfl, Below.refl _ _⟩
                      refine AllOps.cons 24 rfl ?_ ?_
                      · intro T w' hb hl hd
                        have h0 : T.getD 142 undef = .slice (some ⟨b0, o0, none⟩) bn bc := hd 21 142 (by kernel_rfl)
                        have h1 : T.getD 143 undef = .int .i64 k := hd 22 143 (by kernel_rfl)
                        exact Or.inl ⟨.pointer (some ⟨b0, o0 + k * 7, none⟩), w', by go_simp, rfl, Below.refl _ _⟩
                      refine AllOps.cons 25 rfl ?_ ?_
                      · intro T w' hb hl hd
                        have h0 : T.getD 144 undef = .pointer (some ⟨b0, o0 + k * 7, none⟩) := hd 23 144 (by kernel_rfl)
                        exact Or.inl ⟨.pointer (some ⟨b0, o0 + k * 7 + 1, none⟩), w', by go_simp, rfl, Below.refl _ _⟩
                      refine AllOps.cons 26 rfl ?_ ?_
                      · intro T w' hb hl hd
                        have h0 : T.getD 145 undef = .pointer (some ⟨b0, o0 + k * 7 + 1, none⟩) := hd 24 145 (by kernel_rfl)
                        have cc1 := cell_later hb Y1.out
                        have cc2 := cell_later hb Y2.out
                        have cc3 := cell_later hb Y3.out
                        have cc4 := cell_later hb Y4.out
                        have cc5 := cell_later hb Y5.out
                        exact Or.inl ⟨.agg #[.int .i64 Y.rq.queue, .int .i64 Y.rq.fr, .int .i64 Y.rq.un, .int .i64 Y.rq.kind, .slice Y.rq.pa Y.rq.pn Y.rq.pc], w', by go_simp, rfl, Below.refl _ _⟩
                      refine AllOps.cons 27 rfl ?_ ?_
                      · intro T w' hb hl hd
                        have h0 : T.getD 140 undef = .agg #[.int .i64 Z.rq.queue, .int .i64 Z.rq.fr, .int .i64 Z.rq.un, .int .i64 Z.rq.kind, .slice Z.rq.pa Z.rq.pn Z.rq.pc] := hd 19 140 (by kernel_rfl)
                        have h1 : T.getD 146 undef = .agg #[.int .i64 Y.rq.queue, .int .i64 Y.rq.fr, .int .i64 Y.rq.un, .int .i64 Y.rq.kind, .slice Y.rq.pa Y.rq.pn Y.rq.pc] := hd 25 146 (by kernel_rfl)
                        refine Or.inr ⟨17, #[.agg #[.int .i64 Z.rq.queue, .int .i64 Z.rq.fr, .int .i64 Z.rq.un, .int .i64 Z.rq.kind, .slice Z.rq.pa Z.rq.pn Z.rq.pc], .agg #[.int .i64 Y.rq.queue, .int .i64 Y.rq.fr, .int .i64 Y.rq.un, .int .i64 Y.rq.kind, .slice Y.rq.pa Y.rq.pn Y.rq.pc]], by go_simp, ?_⟩
                        refine (KR.out w' hb).mono ?_
                        rintro e w'' ⟨rfl, hbb⟩
                        exact ⟨_, rfl, rfl, hbb⟩
                      refine AllOps.cons 28 rfl ?_ ?_
                      · intro T w' hb hl hd
                        have h0 : T.getD 147 undef = .bool true := hd 26 147 (by kernel_rfl)
                        exact Or.inl ⟨.bool false, w', by go_simp, rfl, Below.refl _ _⟩
                      refine AllOps.cons 29 rfl ?_ ?_
                      · intro T w' hb hl hd
                        have h0 : T.getD 134 undef = .bool false := hd 13 134 (by kernel_rfl)
                        have h1 : T.getD 148 undef = .bool false := hd 27 148 (by kernel_rfl)
                        exact Or.inl ⟨.bool false, w', by go_simp, rfl, Below.refl _ _⟩
                      exact trivial
                    case hfin =>
                      intro T w' hb hs hl hd
                      have e1 : T.getD 149 undef = .bool false := hd 28 149 (by kernel_rfl)
                      rw [lit_then [true, true, true, true, true, true, true, true, true, true, true, true, true, true, true, true, true, true, true, true, true, true, true, true, true, true, true, true, true, true, true, true, true, true, true, true, true, true, true, true, true, true, true, true, true, true, true, true, true, true, true, true, true, true, true, true, true, true, true, true, true, true, true, true, true, true, true, true, true, true, true, true, true, true, true, true, true, true, true, true, true, true, true, true, true, true, true, true, true, true, true, true, true, true, true, true, true, true, true, true, true, true, true, true, true, true, true, true, true, true, true, true, true, true, true, true, true, true, true, true, true, false, false, false, false, false, false, false, false, false, false, false, false, false, false, false, false, false, false, false, false, false, false, false, false, false, false, false, false, false, true, true, true, true, true, true, true, true, true, true, true, true, true, true, true, true, true, true, true, true, true, true, true, true, true, true, true, true, true, true, true, true, true, true, true, true, true, true, true, true, true, true, true, true, true, true, true] (by kernel_rfl) hs hl]
                      obtain ⟨us, hus⟩ : ∃ us : Nat → Value, (fun d => T.getD d undef) = us := ⟨_, rfl⟩
                      rw [hus]
                      have f1 : us 149 = .bool false := by rw [← hus]; exact e1
                      apply_assumption
                      simp only [fillL]
                      go_meet
                      exact ⟨_, rfl, f1, hb⟩
                  case rest =>
                    obtain ⟨w4, rfl, rfl, hb4⟩ := hcut
                    have HB4 := hid hb4
                    clear hb4 d0 d1 d2 d3 s0 s1 s2 s3
                    obtain ⟨d0, d1, d2, d3⟩ := (HX3.out.later HB4.out).cells
                    obtain ⟨s0, s1, s2, s3⟩ := (HS3.out.later HB4.out).cells
                    replace D3 := hid d3
                    replace S3 := hid s3
                    replace S0 := hid s0
                    replace Z1 := hid (cell_later HB4.out Z1.out)
                    replace Y1 := hid (cell_later HB4.out Y1.out)
                    replace Z2 := hid (cell_later HB4.out Z2.out)
                    replace Y2 := hid (cell_later HB4.out Y2.out)
                    replace Z3 := hid (cell_later HB4.out Z3.out)
                    replace Y3 := hid (cell_later HB4.out Y3.out)
                    replace Z4 := hid (cell_later HB4.out Z4.out)
                    replace Y4 := hid (cell_later HB4.out Y4.out)
                    replace Z5 := hid (cell_later HB4.out Z5.out)
                    replace Y5 := hid (cell_later HB4.out Y5.out)
                    replace Z6 := hid (cell_later HB4.out Z6.out)
                    replace Y6 := hid (cell_later HB4.out Y6.out)
                    replace KB := hid fun V (hV : Below w4.heap.size w4 V) => KB.out V (below_from HB4.out hV)
                    go_wp2_with fail
                    go_cut [167] (fun p wx => ∃ Wn, Wn = wx ∧ p = .bool false ∧ Below w4.heap.size w4 wx)
                    case first =>
                      refine wp_region_des ((Tryz.f4.body.bind fun c => regOps c 27).getD #[]) (by kernel_rfl) [isV (.int .i64 0), isV (.bool true), isV (.bool true), isV (.pointer (some ⟨X, 3, none⟩)), isV (.slice (some ⟨g9, o9, none⟩) b9.length k9), isV (.int .i64 i), isV (.pointer (some ⟨g9, o9 + i * 7, none⟩)), isV (.pointer (some ⟨g9, o9 + i * 7 + 6, none⟩)), isV (.slice Z.ba Z.bn Z.bc), isV (.pointer (some ⟨S, 3, none⟩)), isV (.slice (some ⟨b0, o0, none⟩) bn bc), isV (.int .i64 k), isV (.pointer (some ⟨b0, o0 + k * 7, none⟩)), isV (.pointer (some ⟨b0, o0 + k * 7 + 6, none⟩)), isV (.slice Y.ba Y.bn Y.bc), isV (.bool true), isV (.bool false), isV (.bool false)] [(2, true)] (by kernel_rfl) (by kernel_rfl) (by kernel_rfl) ?hg ?hstep ?hfin
                      case hg =>
                        intro g hg v w h
                        simp only [List.mem_cons, List.not_mem_nil, or_false] at hg
                        rcases hg with rfl <;> exact h
                      case hstep =>
                        refine AllOps.cons 1 rfl ?_ ?_
                        · intro T w' hb hl hd
                          have h0 : T.getD 13 undef = .int .i64 0 := hl 13 (by kernel_rfl)
                          exact Or.inl ⟨.int .i64 0, w', by go_simp, rfl, Below.refl _ _⟩
                        refine AllOps.cons 2 rfl ?_ ?_
                        · intro T w' hb hl hd
                          have h0 : T.getD 150 undef = .int .i64 0 := hd 0 150 (by kernel_rfl)
                          exact Or.inl ⟨.bool true, w', by go_simp, rfl, Below.refl _ _⟩
                        refine AllOps.cons 3 rfl ?_ ?_
                        · intro T w' hb hl hd
                          have h0 : T.getD 151 undef = .bool true := hd 1 151 (by kernel_rfl)
                          exact Or.inl ⟨.bool true, w', by go_simp, rfl, Below.refl _ _⟩
                        refine AllOps.cons 4 rfl ?_ ?_
                        · intro T w' hb hl hd
                          have h0 : T.getD 7 undef = .pointer (some ⟨X, 0, none⟩) := hl 7 (by kernel_rfl)
                          exact Or.inl ⟨.pointer (some ⟨X, 3, none⟩), w', by go_simp, rfl, Below.refl _ _⟩
                        refine AllOps.cons 5 rfl ?_ ?_
                        · intro T w' hb hl hd
                          have h0 : T.getD 153 undef = .pointer (some ⟨X, 3, none⟩) := hd 3 153 (by kernel_rfl)
                          have cc := cell_later hb D3.out
                          exact Or.inl ⟨.slice (some ⟨g9, o9, none⟩) b9.length k9, w', by go_simp, rfl, Below.refl _ _⟩
                        refine AllOps.cons 6 rfl ?_ ?_
                        · intro T w' hb hl hd
                          have h0 : T.getD 17 undef = .int .i64 i := hl 17 (by kernel_rfl)
                          exact Or.inl ⟨.int .i64 i, w', by go_simp, rfl, Below.refl _ _⟩
                        refine AllOps.cons 7 rfl ?_ ?_
                        · intro T w' hb hl hd
                          have h0 : T.getD 154 undef = .slice (some ⟨g9, o9, none⟩) b9.length k9 := hd 4 154 (by kernel_rfl)
                          have h1 : T.getD 155 undef = .int .i64 i := hd 5 155 (by kernel_rfl)
                          exact Or.inl ⟨.pointer (some ⟨g9, o9 + i * 7, none⟩), w', by go_simp, rfl, Below.refl _ _⟩
                        refine AllOps.cons 8 rfl ?_ ?_
                        · intro T w' hb hl hd
                          have h0 : T.getD 156 undef = .pointer (some ⟨g9, o9 + i * 7, none⟩) := hd 6 156 (by kernel_rfl)
                          exact Or.inl ⟨.pointer (some ⟨g9, o9 + i * 7 + 6, none⟩), w', by go_simp, rfl, Below.refl _ _⟩
                        refine AllOps.cons 9 rfl ?_ ?_
                        · intro T w' hb hl hd
                          have h0 : T.getD 157 undef = .pointer (some ⟨g9, o9 + i * 7 + 6, none⟩) := hd 7 157 (by kernel_rfl)
                          have cc := cell_later hb Z6.out
                          exact Or.inl ⟨.slice Z.ba Z.bn Z.bc, w', by go_simp, rfl, Below.refl _ _⟩
                        refine AllOps.cons 10 rfl ?_ ?_
                        · intro T w' hb hl hd
                          have h0 : T.getD 3 undef = .pointer (some ⟨S, 0, none⟩) := hl 3 (by kernel_rfl)
                          exact Or.inl ⟨.pointer (some ⟨S, 3, none⟩), w', by go_simp, rfl, Below.refl _ _⟩
                        refine AllOps.cons 11 rfl ?_ ?_
                        · intro T w' hb hl hd
                          have h0 : T.getD 159 undef = .pointer (some ⟨S, 3, none⟩) := hd 9 159 (by kernel_rfl)
                          have cc := cell_later hb S3.out
                          exact Or.inl ⟨.slice (some ⟨b0, o0, none⟩) bn bc, w', by go_simp, rfl, Below.refl _ _⟩
                        refine AllOps.cons 12 rfl ?_ ?_
                        · intro T w' hb hl hd
                          have h0 : T.getD 11 undef = .int .i64 k := hl 11 (by kernel_rfl)
                          exact Or.inl ⟨.int .i64 k, w', by go_simp, rfl, Below.refl _ _⟩
                        refine AllOps.cons 13 rfl ?_ ?_
                        · intro T w' hb hl hd
                          have h0 : T.getD 160 undef = .slice (some ⟨b0, o0, none⟩) bn bc := hd 10 160 (by kernel_rfl)
                          have h1 : T.getD 161 undef = .int .i64 k := hd 11 161 (by kernel_rfl)
                          exact Or.inl ⟨.pointer (some ⟨b0, o0 + k * 7, none⟩), w', by go_simp, rfl, Below.refl _ _⟩
                        refine AllOps.cons 14 rfl ?_ ?_
                        · intro T w' hb hl hd
                          have h0 : T.getD 162 undef = .pointer (some ⟨b0, o0 + k * 7, none⟩) := hd 12 162 (by kernel_rfl)
                          exact Or.inl ⟨.pointer (some ⟨b0, o0 + k * 7 + 6, none⟩), w', by go_simp, rfl, Below.refl _ _⟩
                        refine AllOps.cons 15 rfl ?_ ?_
                        · intro T w' hb hl hd
                          have h0 : T.getD 163 undef = .pointer (some ⟨b0, o0 + k * 7 + 6, none⟩) := hd 13 163 (by kernel_rfl)
                          have cc := cell_later hb Y6.out
                          exact Or.inl ⟨.slice Y.ba Y.bn Y.bc, w', by go_simp, rfl, Below.refl _ _⟩
                        refine AllOps.cons 16 rfl ?_ ?_
                        · intro T w' hb hl hd
                          have h0 : T.getD 158 undef = .slice Z.ba Z.bn Z.bc := hd 8 158 (by kernel_rfl)
                          have h1 : T.getD 164 undef = .slice Y.ba Y.bn Y.bc := hd 14 164 (by kernel_rfl)
                          refine Or.inr ⟨18, #[.slice Z.ba Z.bn Z.bc, .slice Y.ba Y.bn Y.bc], by go_simp, ?_⟩
                          refine (KB.out w' hb).mono ?_
                          rintro e w'' ⟨rfl, hbb⟩
                          exact ⟨_, rfl, rfl, hbb⟩
                        refine AllOps.cons 17 rfl ?_ ?_
                        · intro T w' hb hl hd
                          have h0 : T.getD 165 undef = .bool true := hd 15 165 (by kernel_rfl)
                          exact Or.inl ⟨.bool false, w', by go_simp, rfl, Below.refl _ _⟩
                        refine AllOps.cons 18 rfl ?_ ?_
                        · intro T w' hb hl hd
                          have h0 : T.getD 152 undef = .bool true := hd 2 152 (by kernel_rfl)
                          have h1 : T.getD 166 undef = .bool false := hd 16 166 (by kernel_rfl)
                          exact Or.inl ⟨.bool false, w', by go_simp, rfl, Below.refl _ _⟩
                        exact trivial
                      case hfin =>
                        intro T w' hb hs hl hd
                        have e1 : T.getD 167 undef = .bool false := hd 17 167 (by kernel_rfl)
                        rw [lit_then [true, true, true, true, true, true, true, true, true, true, true, true, true, true, true, true, true, true, true, true, true, true, true, true, true, true, true, true, true, true, true, true, true, true, true, true, true, true, true, true, true, true, true, true, true, true, true, true, true, true, true, true, true, true, true, true, true, true, true, true, true, true, true, true, true, true, true, true, true, true, true, true, true, true, true, true, true, true, true, true, true, true, true, true, true, true, true, true, true, true, true, true, true, true, true, true, true, true, true, true, true, true, true, true, true, true, true, true, true, true, true, true, true, true, true, true, true, true, true, true, true, true, true, true, true, true, true, true, true, true, true, true, true, true, true, true, true, true, true, true, true, true, true, true, true, true, true, true, true, true, false, false, false, false, false, false, false, false, false, false, false, false, false, false, false, false, false, false, true, true, true, true, true, true, true, true, true, true, true, true, true, true, true, true, true, true, true, true, true, true, true, true, true, true, true, true, true] (by kernel_rfl) hs hl]
                        obtain ⟨us, hus⟩ : ∃ us : Nat → Value, (fun d => T.getD d undef) = us := ⟨_, rfl⟩
                        rw [hus]
                        have f1 : us 167 = .bool false := by rw [← hus]; exact e1
                        apply_assumption
                        simp only [fillL]
                        go_meet
                        exact ⟨_, rfl, f1, hb⟩
                    case rest =>
                      obtain ⟨w5, rfl, rfl, hb5⟩ := hcut
                      have HB5 := hid (below_from HB4.out hb5)
                      have z6 := cell_later hb5 Z6.out
                      clear hb5 d0 d1 d2 d3 s0 s1 s2 s3
                      obtain ⟨d0, d1, d2, d3⟩ := (HX3.out.later HB5.out).cells
                      obtain ⟨s0, s1, s2, s3⟩ := (HS3.out.later HB5.out).cells
                      have hznn : Z.bn ≤ 9223372036854775807 := HZB.out.bound
                      go_wp2_with fail
                      go_loopg [19] 1 (fun gk (p : Value) wz => p = .int .i64 0 ∧ wz = w5 ∧ gk = 1)
                      case atStart => exact ⟨rfl, rfl, rfl⟩
                      case round =>
                        obtain ⟨rfl, rfl, rfl⟩ := hrel
                        by_cases hz : (0 : Int) < Z.bn
                        · go_wp2
                          go_roundg (bn - (k + 1))
                          case measure => omega
                          case rel => exact ⟨k + 1, by go_num, by omega, by omega, below_from (below_from HBR.out hb3) HB5.out⟩
                        · go_wp2
                          go_roundg (bn - (k + 1))
                          case measure => omega
                          case rel => exact ⟨k + 1, by go_num, by omega, by omega, below_from (below_from HBR.out hb3) HB5.out⟩
                · have hbk9 := (HS92.out.later (below_from HBR.out hb3)).2
                  obtain ⟨g9, o9, rfl, hc9⟩ := hbk9.cells (by omega)
                  have hk9le := hbk9.le
                  have hk9cb := hbk9.capb
                  have hZr := hbk9.rqs i hi
                  have hZb := hbk9.bites i hi
                  obtain ⟨Z0, Z1, Z2, Z3, Z4, Z5, Z6⟩ := hc9 i hi
                  obtain ⟨_, Y1, Y2, Y3, Y4, Y5, Y6⟩ := (by have h7 := HC.out k hlt; rw [HY.out] at h7; exact h7 : _ ∧ _ ∧ _ ∧ _ ∧ _ ∧ _ ∧ _)
                  have hYr := ((HST2.out.later (below_from HBR.out hb3)).2).rqs k hlt
                  have hYb := ((HST2.out.later (below_from HBR.out hb3)).2).bites k hlt
                  rw [HY.out] at hYr hYb
                  obtain ⟨Z, hZ⟩ : ∃ Z, bk b9 i = Z := ⟨_, rfl⟩
                  rw [hZ] at hZr hZb Z1 Z2 Z3 Z4 Z5 Z6 hrq hbs
                  replace Z1 := hid Z1
                  replace Y1 := hid (cell_later hb3 Y1)
                  replace Z2 := hid Z2
                  replace Y2 := hid (cell_later hb3 Y2)
                  replace Z3 := hid Z3
                  replace Y3 := hid (cell_later hb3 Y3)
                  replace Z4 := hid Z4
                  replace Y4 := hid (cell_later hb3 Y4)
                  replace Z5 := hid Z5
                  replace Y5 := hid (cell_later hb3 Y5)
                  replace Z6 := hid Z6
                  replace Y6 := hid (cell_later hb3 Y6)
                  have KR := hid fun V (hV : Below w3.heap.size w3 V) => SameReqs_same V Z.rq Y.rq (RqIn.later hZr hV) (RqIn.later hYr hV) hrq
                  have D3 := hid d3
                  have S3 := hid s3
                  have S0 := hid s0
                  have HZB := hid hZb
                  have HBS := hid hbs
                  have hi' : (i : Int) < b9.length := by omega
                  clear hbk9 hc9 hZr hYr hYb hrq hbs Z0 hZ hZb
                  go_wp2_with fail
                  go_cut [149] (fun p wx => ∃ Wn, Wn = wx ∧ p = .bool false ∧ Below w3.heap.size w3 wx)
                  case first =>
                    refine wp_region_des ((Tryz.f4.body.bind fun c => regOps c 25).getD #[]) (by kernel_rfl) [isV (.int .i64 0), isV (.bool false), isV (.bool false), isV (.int .i64 i), isV (.bool false), isV (.bool false), isV (.bool false), isV (.int .i64 i), isV (.pointer (some ⟨X, 3, none⟩)), isV (.slice (some ⟨g9, o9, none⟩) b9.length k9), isV (.int .i64 (b9.length : Nat)), isV (.bool false), isV (.bool false), isV (.bool false), isV (.pointer (some ⟨X, 3, none⟩)), isV (.slice (some ⟨g9, o9, none⟩) b9.length k9), isV (.int .i64 i), isV (.pointer (some ⟨g9, o9 + i * 7, none⟩)), isV (.pointer (some ⟨g9, o9 + i * 7 + 1, none⟩)), isV (.agg #[.int .i64 Z.rq.queue, .int .i64 Z.rq.fr, .int .i64 Z.rq.un, .int .i64 Z.rq.kind, .slice Z.rq.pa Z.rq.pn Z.rq.pc]), isV (.pointer (some ⟨S, 3, none⟩)), isV (.slice (some ⟨b0, o0, none⟩) bn bc), isV (.int .i64 k), isV (.pointer (some ⟨b0, o0 + k * 7, none⟩)), isV (.pointer (some ⟨b0, o0 + k * 7 + 1, none⟩)), isV (.agg #[.int .i64 Y.rq.queue, .int .i64 Y.rq.fr, .int .i64 Y.rq.un, .int .i64 Y.rq.kind, .slice Y.rq.pa Y.rq.pn Y.rq.pc]), isV (.bool true), isV (.bool false), isV (.bool false)] [(2, false), (6, false), (13, false)] (by kernel_rfl) (by kernel_rfl) (by kernel_rfl) ?hg ?hstep ?hfin
                    case hg =>
                      intro g hg v w h
                      simp only [List.mem_cons, List.not_mem_nil, or_false] at hg
                      rcases hg with rfl | rfl | rfl <;> exact h
                    case hstep =>
                      refine AllOps.cons 1 rfl ?_ ?_
                      · intro T w' hb hl hd
                        have h0 : T.getD 18 undef = .int .i64 0 := hl 18 (by kernel_rfl)
                        exact Or.inl ⟨.int .i64 0, w', by go_simp, rfl, Below.refl _ _⟩
                      refine AllOps.cons 2 rfl ?_ ?_
                      · intro T w' hb hl hd
                        have h0 : T.getD 121 undef = .int .i64 0 := hd 0 121 (by kernel_rfl)
                        exact Or.inl ⟨.bool false, w', by go_simp, rfl, Below.refl _ _⟩
                      refine AllOps.cons 3 rfl ?_ ?_
                      · intro T w' hb hl hd
                        have h0 : T.getD 122 undef = .bool false := hd 1 122 (by kernel_rfl)
                        exact Or.inl ⟨.bool false, w', by go_simp, rfl, Below.refl _ _⟩
                      refine AllOps.cons 4 rfl ?_ ?_
                      · intro T w' hb hl hd
                        have h0 : T.getD 17 undef = .int .i64 i := hl 17 (by kernel_rfl)
                        exact Or.inl ⟨.int .i64 i, w', by go_simp, rfl, Below.refl _ _⟩
                      refine AllOps.cons 5 rfl ?_ ?_
                      · intro T w' hb hl hd
                        have h0 : T.getD 124 undef = .int .i64 i := hd 3 124 (by kernel_rfl)
                        have q1 : decide ((i : Int) < 0) = false := by simp
                        exact Or.inl ⟨.bool false, w', by go_simp, rfl, Below.refl _ _⟩
                      refine AllOps.cons 6 rfl ?_ ?_
                      · intro T w' hb hl hd
                        have h0 : T.getD 123 undef = .bool false := hd 2 123 (by kernel_rfl)
                        have h1 : T.getD 125 undef = .bool false := hd 4 125 (by kernel_rfl)
                        exact Or.inl ⟨.bool false, w', by go_simp, rfl, Below.refl _ _⟩
                      refine AllOps.cons 7 rfl ?_ ?_
                      · intro T w' hb hl hd
                        have h0 : T.getD 126 undef = .bool false := hd 5 126 (by kernel_rfl)
                        exact Or.inl ⟨.bool false, w', by go_simp, rfl, Below.refl _ _⟩
                      refine AllOps.cons 8 rfl ?_ ?_
                      · intro T w' hb hl hd
                        have h0 : T.getD 17 undef = .int .i64 i := hl 17 (by kernel_rfl)
                        exact Or.inl ⟨.int .i64 i, w', by go_simp, rfl, Below.refl _ _⟩
                      refine AllOps.cons 9 rfl ?_ ?_
                      · intro T w' hb hl hd
                        have h0 : T.getD 7 undef = .pointer (some ⟨X, 0, none⟩) := hl 7 (by kernel_rfl)
                        exact Or.inl ⟨.pointer (some ⟨X, 3, none⟩), w', by go_simp, rfl, Below.refl _ _⟩
                      refine AllOps.cons 10 rfl ?_ ?_
                      · intro T w' hb hl hd
                        have h0 : T.getD 129 undef = .pointer (some ⟨X, 3, none⟩) := hd 8 129 (by kernel_rfl)
                        have cc := cell_later hb D3.out
                        exact Or.inl ⟨.slice (some ⟨g9, o9, none⟩) b9.length k9, w', by go_simp, rfl, Below.refl _ _⟩
                      refine AllOps.cons 11 rfl ?_ ?_
                      · intro T w' hb hl hd
                        have h0 : T.getD 130 undef = .slice (some ⟨g9, o9, none⟩) b9.length k9 := hd 9 130 (by kernel_rfl)
                        exact Or.inl ⟨.int .i64 (b9.length : Nat), w', by go_simp, rfl, Below.refl _ _⟩
                      refine AllOps.cons 12 rfl ?_ ?_
                      · intro T w' hb hl hd
                        have h0 : T.getD 128 undef = .int .i64 i := hd 7 128 (by kernel_rfl)
                        have h1 : T.getD 131 undef = .int .i64 (b9.length : Nat) := hd 10 131 (by kernel_rfl)
                        have q1 : ¬ ((b9.length : Int) ≤ i) := by omega
                        exact Or.inl ⟨.bool false, w', by go_simp, rfl, Below.refl _ _⟩
                      refine AllOps.cons 13 rfl ?_ ?_
                      · intro T w' hb hl hd
                        have h0 : T.getD 127 undef = .bool false := hd 6 127 (by kernel_rfl)
                        have h1 : T.getD 132 undef = .bool false := hd 11 132 (by kernel_rfl)
                        exact Or.inl ⟨.bool false, w', by go_simp, rfl, Below.refl _ _⟩
                      refine AllOps.cons 14 rfl ?_ ?_
                      · intro T w' hb hl hd
                        have h0 : T.getD 133 undef = .bool false := hd 12 133 (by kernel_rfl)
                        exact Or.inl ⟨.bool false, w', by go_simp, rfl, Below.refl _ _⟩
                      refine AllOps.cons 15 rfl ?_ ?_
                      · intro T w' hb hl hd
                        have h0 : T.getD 7 undef = .pointer (some ⟨X, 0, none⟩) := hl 7 (by kernel_rfl)
                        exact Or.inl ⟨.pointer (some ⟨X, 3, none⟩), w', by go_simp, rfl, Below.refl _ _⟩
                      refine AllOps.cons 16 rfl ?_ ?_
                      · intro T w' hb hl hd
                        have h0 : T.getD 135 undef = .pointer (some ⟨X, 3, none⟩) := hd 14 135 (by kernel_rfl)
                        have cc := cell_later hb D3.out
                        exact Or.inl ⟨.slice (some ⟨g9, o9, none⟩) b9.length k9, w', by go_simp, rfl, Below.refl _ _⟩
                      refine AllOps.cons 17 rfl ?_ ?_
                      · intro T w' hb hl hd
                        have h0 : T.getD 17 undef = .int .i64 i := hl 17 (by kernel_rfl)
                        exact Or.inl ⟨.int .i64 i, w', by go_simp, rfl, Below.refl _ _⟩
                      refine AllOps.cons 18 rfl ?_ ?_
                      · intro T w' hb hl hd
                        have h0 : T.getD 136 undef = .slice (some ⟨g9, o9, none⟩) b9.length k9 := hd 15 136 (by kernel_rfl)
                        have h1 : T.getD 137 undef = .int .i64 i := hd 16 137 (by kernel_rfl)
                        exact Or.inl ⟨.pointer (some ⟨g9, o9 + i * 7, none⟩), w', by go_simp, rfl, Below.refl _ _⟩
                      refine AllOps.cons 19 rfl ?_ ?_
                      · intro T w' hb hl hd
                        have h0 : T.getD 138 undef = .pointer (some ⟨g9, o9 + i * 7, none⟩) := hd 17 138 (by kernel_rfl)
                        exact Or.inl ⟨.pointer (some ⟨g9, o9 + i * 7 + 1, none⟩), w', by go_simp, rfl, Below.refl _ _⟩
                      refine AllOps.cons 20 rfl ?_ ?_
                      · intro T w' hb hl hd
                        have h0 : T.getD 139 undef = .pointer (some ⟨g9, o9 + i * 7 + 1, none⟩) := hd 18 139 (by kernel_rfl)
                        have cc1 := cell_later hb Z1.out
                        have cc2 := cell_later hb Z2.out
                        have cc3 := cell_later hb Z3.out
                        have cc4 := cell_later hb Z4.out
                        have cc5 := cell_later hb Z5.out
                        exact Or.inl ⟨.agg #[.int .i64 Z.rq.queue, .int .i64 Z.rq.fr, .int .i64 Z.rq.un, .int .i64 Z.rq.kind, .slice Z.rq.pa Z.rq.pn Z.rq.pc], w', by go_simp, rfl, Below.refl _ _⟩
                      refine AllOps.cons 21 rfl ?_ ?_
                      · intro T w' hb hl hd
                        have h0 : T.getD 3 undef = .pointer (some ⟨S, 0, none⟩) := hl 3 (by kernel_rfl)
                        exact Or.inl ⟨.pointer (some ⟨S, 3, none⟩), w', by go_simp, rfl, Below.refl _ _⟩
                      refine AllOps.cons 22 rfl ?_ ?_
                      · intro T w' hb hl hd
                        have h0 : T.getD 141 undef = .pointer (some ⟨S, 3, none⟩) := hd 20 141 (by kernel_rfl)
                        have cc := cell_later hb S3.out
                        exact Or.inl ⟨.slice (some ⟨b0, o0, none⟩) bn bc, w', by go_simp, rfl, Below.refl _ _⟩
                      refine AllOps.cons 23 rfl ?_ ?_
                      · intro T w' hb hl hd
                        have h0 : T.getD 11 undef = .int .i64 k := hl 11 (by kernel_rfl)
                        exact Or.inl ⟨.int .i64 k, w', by go_simp, rfl, Below.refl _ _⟩
                      refine AllOps.cons 24 rfl ?_ ?_
                      · intro T w' hb hl hd
                        have h0 : T.getD 142 undef = .slice (some ⟨b0, o0, none⟩) bn bc := hd 21 142 (by kernel_rfl)
                        have h1 : T.getD 143 undef = .int .i64 k := hd 22 143 (by kernel_rfl)
                        exact Or.inl ⟨.pointer (some ⟨b0, o0 + k * 7, none⟩), w', by go_simp, rfl, Below.refl _ _⟩
                      refine AllOps.cons 25 rfl ?_ ?_
                      · intro T w' hb hl hd
                        have h0 : T.getD 144 undef = .pointer (some ⟨b0, o0 + k * 7, none⟩) := hd 23 144 (by kernel_rfl)
                        exact Or.inl ⟨.pointer (some ⟨b0, o0 + k * 7 + 1, none⟩), w', by go_simp, rfl, Below.refl _ _⟩
                      refine AllOps.cons 26 rfl ?_ ?_
                      · intro T w' hb hl hd
                        have h0 : T.getD 145 undef = .pointer (some ⟨b0, o0 + k * 7 + 1, none⟩) := hd 24 145 (by kernel_rfl)
                        have cc1 := cell_later hb Y1.out
                        have cc2 := cell_later hb Y2.out
                        have cc3 := cell_later hb Y3.out
                        have cc4 := cell_later hb Y4.out
                        have cc5 := cell_later hb Y5.out
                        exact Or.inl ⟨.agg #[.int .i64 Y.rq.queue, .int .i64 Y.rq.fr, .int .i64 Y.rq.un, .int .i64 Y.rq.kind, .slice Y.rq.pa Y.rq.pn Y.rq.pc], w', by go_simp, rfl, Below.refl _ _⟩
                      refine AllOps.cons 27 rfl ?_ ?_
                      · intro T w' hb hl hd
                        have h0 : T.getD 140 undef = .agg #[.int .i64 Z.rq.queue, .int .i64 Z.rq.fr, .int .i64 Z.rq.un, .int .i64 Z.rq.kind, .slice Z.rq.pa Z.rq.pn Z.rq.pc] := hd 19 140 (by kernel_rfl)
                        have h1 : T.getD 146 undef = .agg #[.int .i64 Y.rq.queue, .int .i64 Y.rq.fr, .int .i64 Y.rq.un, .int .i64 Y.rq.kind, .slice Y.rq.pa Y.rq.pn Y.rq.pc] := hd 25 146 (by kernel_rfl)
                        refine Or.inr ⟨17, #[.agg #[.int .i64 Z.rq.queue, .int .i64 Z.rq.fr, .int .i64 Z.rq.un, .int .i64 Z.rq.kind, .slice Z.rq.pa Z.rq.pn Z.rq.pc], .agg #[.int .i64 Y.rq.queue, .int .i64 Y.rq.fr, .int .i64 Y.rq.un, .int .i64 Y.rq.kind, .slice Y.rq.pa Y.rq.pn Y.rq.pc]], by go_simp, ?_⟩
                        refine (KR.out w' hb).mono ?_
                        rintro e w'' ⟨rfl, hbb⟩
                        exact ⟨_, rfl, rfl, hbb⟩
                      refine AllOps.cons 28 rfl ?_ ?_
                      · intro T w' hb hl hd
                        have h0 : T.getD 147 undef = .bool true := hd 26 147 (by kernel_rfl)
                        exact Or.inl ⟨.bool false, w', by go_simp, rfl, Below.refl _ _⟩
                      refine AllOps.cons 29 rfl ?_ ?_
                      · intro T w' hb hl hd
                        have h0 : T.getD 134 undef = .bool false := hd 13 134 (by kernel_rfl)
                        have h1 : T.getD 148 undef = .bool false := hd 27 148 (by kernel_rfl)
                        exact Or.inl ⟨.bool false, w', by go_simp, rfl, Below.refl _ _⟩
                      exact trivial
                    case hfin =>
                      intro T w' hb hs hl hd
                      have e1 : T.getD 149 undef = .bool false := hd 28 149 (by kernel_rfl)
                      rw [lit_then [true, true, true, true, true, true, true, true, true, true, true, true, true, true, true, true, true, true, true, true, true, true, true, true, true, true, true, true, true, true, true, true, true, true, true, true, true, true, true, true, true, true, true, true, true, true, true, true, true, true, true, true, true, true, true, true, true, true, true, true, true, true, true, true, true, true, true, true, true, true, true, true, true, true, true, true, true, true, true, true, true, true, true, true, true, true, true, true, true, true, true, true, true, true, true, true, true, true, true, true, true, true, true, true, true, true, true, true, true, true, true, true, true, true, true, true, true, true, true, true, true, false, false, false, false, false, false, false, false, false, false, false, false, false, false, false, false, false, false, false, false, false, false, false, false, false, false, false, false, false, true, true, true, true, true, true, true, true, true, true, true, true, true, true, true, true, true, true, true, true, true, true, true, true, true, true, true, true, true, true, true, true, true, true, true, true, true, true, true, true, true, true, true, true, true, true, true] (by kernel_rfl) hs hl]
                      obtain ⟨us, hus⟩ : ∃ us : Nat → Value, (fun d => T.getD d undef) = us := ⟨_, rfl⟩
                      rw [hus]
                      have f1 : us 149 = .bool false := by rw [← hus]; exact e1
                      apply_assumption
                      simp only [fillL]
                      go_meet
                      exact ⟨_, rfl, f1, hb⟩
                  case rest =>
                    obtain ⟨w4, rfl, rfl, hb4⟩ := hcut
                    have HB4 := hid hb4
                    clear hb4 d0 d1 d2 d3 s0 s1 s2 s3
                    obtain ⟨d0, d1, d2, d3⟩ := (HX3.out.later HB4.out).cells
                    obtain ⟨s0, s1, s2, s3⟩ := (HS3.out.later HB4.out).cells
                    replace D3 := hid d3
                    replace S3 := hid s3
                    replace S0 := hid s0
                    replace Z1 := hid (cell_later HB4.out Z1.out)
                    replace Y1 := hid (cell_later HB4.out Y1.out)
                    replace Z2 := hid (cell_later HB4.out Z2.out)
                    replace Y2 := hid (cell_later HB4.out Y2.out)
                    replace Z3 := hid (cell_later HB4.out Z3.out)
                    replace Y3 := hid (cell_later HB4.out Y3.out)
                    replace Z4 := hid (cell_later HB4.out Z4.out)
                    replace Y4 := hid (cell_later HB4.out Y4.out)
                    replace Z5 := hid (cell_later HB4.out Z5.out)
                    replace Y5 := hid (cell_later HB4.out Y5.out)
                    replace Z6 := hid (cell_later HB4.out Z6.out)
                    replace Y6 := hid (cell_later HB4.out Y6.out)
                    go_wp2_with fail
                    go_cut [167] (fun p wx => ∃ Wn, Wn = wx ∧ p = .bool false ∧ Below w4.heap.size w4 wx)
                    case first =>
                      refine wp_region_des2 ((Tryz.f4.body.bind fun c => regOps c 27).getD #[]) (by kernel_rfl) [isV (.int .i64 1), isV (.bool false), isV (.bool false), isV undef, isV undef, isV undef, isV undef, isV undef, isV undef, isV undef, isV undef, isV undef, isV undef, isV undef, isV undef, isV undef, isV undef, isV (.bool false)] [] [(2, true)] (by kernel_rfl) (by kernel_rfl) (by kernel_rfl) ?hg ?hn ?hstep ?hfin
                      case hg =>
                        intro g hg v w h
                        cases hg
                      case hn =>
                        intro g hg v w h
                        simp only [List.mem_cons, List.not_mem_nil, or_false] at hg
                        rcases hg with rfl
                        all_goals
                          have h : v = _ := h
                          rw [h]
                          intro q
                          cases q
                      case hstep =>
                        refine AllOps.cons 1 rfl ?_ ?_
                        · intro T w' hb hl hd
                          refine Step.does (by kernel_rfl) ?_
                          have h0 : T.getD 13 undef = .int .i64 1 := hl 13 (by kernel_rfl)
                          exact Or.inl ⟨.int .i64 1, w', by go_simp, rfl, Below.refl _ _⟩
                        refine AllOps.cons 2 rfl ?_ ?_
                        · intro T w' hb hl hd
                          refine Step.does (by kernel_rfl) ?_
                          have h0 : T.getD 150 undef = .int .i64 1 := hd 0 150 (by kernel_rfl)
                          exact Or.inl ⟨.bool false, w', by go_simp, rfl, Below.refl _ _⟩
                        refine AllOps.cons 3 rfl ?_ ?_
                        · intro T w' hb hl hd
                          refine Step.does (by kernel_rfl) ?_
                          have h0 : T.getD 151 undef = .bool false := hd 1 151 (by kernel_rfl)
                          exact Or.inl ⟨.bool false, w', by go_simp, rfl, Below.refl _ _⟩
                        refine AllOps.cons 4 rfl (fun T w' hb hl hd => Step.skip (by kernel_rfl) rfl) ?_
                        refine AllOps.cons 5 rfl (fun T w' hb hl hd => Step.skip (by kernel_rfl) rfl) ?_
                        refine AllOps.cons 6 rfl (fun T w' hb hl hd => Step.skip (by kernel_rfl) rfl) ?_
                        refine AllOps.cons 7 rfl (fun T w' hb hl hd => Step.skip (by kernel_rfl) rfl) ?_
                        refine AllOps.cons 8 rfl (fun T w' hb hl hd => Step.skip (by kernel_rfl) rfl) ?_
                        refine AllOps.cons 9 rfl (fun T w' hb hl hd => Step.skip (by kernel_rfl) rfl) ?_
                        refine AllOps.cons 10 rfl (fun T w' hb hl hd => Step.skip (by kernel_rfl) rfl) ?_
                        refine AllOps.cons 11 rfl (fun T w' hb hl hd => Step.skip (by kernel_rfl) rfl) ?_
                        refine AllOps.cons 12 rfl (fun T w' hb hl hd => Step.skip (by kernel_rfl) rfl) ?_
                        refine AllOps.cons 13 rfl (fun T w' hb hl hd => Step.skip (by kernel_rfl) rfl) ?_
                        refine AllOps.cons 14 rfl (fun T w' hb hl hd => Step.skip (by kernel_rfl) rfl) ?_
                        refine AllOps.cons 15 rfl (fun T w' hb hl hd => Step.skip (by kernel_rfl) rfl) ?_
                        refine AllOps.cons 16 rfl (fun T w' hb hl hd => Step.skip (by kernel_rfl) rfl) ?_
                        refine AllOps.cons 17 rfl (fun T w' hb hl hd => Step.skip (by kernel_rfl) rfl) ?_
                        refine AllOps.cons 18 rfl ?_ ?_
                        · intro T w' hb hl hd
                          refine Step.does (by kernel_rfl) ?_
                          have h0 : T.getD 152 undef = .bool false := hd 2 152 (by kernel_rfl)
                          exact Or.inl ⟨.bool false, w', by go_simp, rfl, Below.refl _ _⟩
                        exact trivial
                      case hfin =>
                        intro T w' hb hs hl hd
                        have e1 : T.getD 167 undef = .bool false := hd 17 167 (by kernel_rfl)
                        rw [lit_then [true, true, true, true, true, true, true, true, true, true, true, true, true, true, true, true, true, true, true, true, true, true, true, true, true, true, true, true, true, true, true, true, true, true, true, true, true, true, true, true, true, true, true, true, true, true, true, true, true, true, true, true, true, true, true, true, true, true, true, true, true, true, true, true, true, true, true, true, true, true, true, true, true, true, true, true, true, true, true, true, true, true, true, true, true, true, true, true, true, true, true, true, true, true, true, true, true, true, true, true, true, true, true, true, true, true, true, true, true, true, true, true, true, true, true, true, true, true, true, true, true, true, true, true, true, true, true, true, true, true, true, true, true, true, true, true, true, true, true, true, true, true, true, true, true, true, true, true, true, true, false, false, false, false, false, false, false, false, false, false, false, false, false, false, false, false, false, false, true, true, true, true, true, true, true, true, true, true, true, true, true, true, true, true, true, true, true, true, true, true, true, true, true, true, true, true, true] (by kernel_rfl) hs hl]
                        obtain ⟨us, hus⟩ : ∃ us : Nat → Value, (fun d => T.getD d undef) = us := ⟨_, rfl⟩
                        rw [hus]
                        have f1 : us 167 = .bool false := by rw [← hus]; exact e1
                        apply_assumption
                        simp only [fillL]
                        go_meet
                        exact ⟨_, rfl, f1, hb⟩
                    case rest =>
                      obtain ⟨w5, rfl, rfl, hb5⟩ := hcut
                      have HB5 := hid (below_from HB4.out hb5)
                      have z6 := cell_later hb5 Z6.out
                      clear hb5 d0 d1 d2 d3 s0 s1 s2 s3
                      obtain ⟨d0, d1, d2, d3⟩ := (HX3.out.later HB5.out).cells
                      obtain ⟨s0, s1, s2, s3⟩ := (HS3.out.later HB5.out).cells
                      have hznn : Z.bn ≤ 9223372036854775807 := HZB.out.bound
                      go_wp2_with fail
                      go_loopg [19] Z.bn (fun gk (p : Value) wz => ∃ j : Nat, p = .int .i64 j ∧ j ≤ Z.bn ∧ gk = Z.bn - j ∧ Below w5.heap.size w5 wz)
                      case atStart => exact ⟨0, rfl, by omega, by omega, Below.refl _ _⟩
                      case round =>
                        obtain ⟨j, rfl, hj, rfl, hbz⟩ := hrel
                        have HB6 := hid (below_from HB5.out hbz)
                        have HBZ := hid hbz
                        have HZ6 := hid (cell_later hbz z6)
                        clear d0 d1 d2 d3 s0 s1 s2 s3 z6
                        have z6 := HZ6.out
                        obtain ⟨d0, d1, d2, d3⟩ := (HX3.out.later HB6.out).cells
                        obtain ⟨s0, s1, s2, s3⟩ := (HS3.out.later HB6.out).cells
                        by_cases hjl : j < Z.bn
                        · have hjl' : (j : Int) < Z.bn := by omega
                          obtain ⟨zb, zo, hza, hcz⟩ := (HZB.out.later HB6.out).cells (by omega)
                          have hzle := HZB.out.le
                          have hzcb := HZB.out.capb
                          rw [hza] at z6
                          have x1 := (hcz j hjl).2
                          obtain ⟨x, hx⟩ : ∃ x, rN Z.bs j = x := ⟨_, rfl⟩
                          have hxc : c ≤ x := by rw [← hx]; exact HBS.out j (by have := HZB.out.len; omega)
                          rw [hx] at x1
                          have X1 := hid x1
                          have Z6 := hid z6
                          have D3 := hid d3
                          have S0 := hid s0
                          clear hza hcz hx x1 hbz
                          go_wp2_with fail
                          go_cut [195] (fun p wx => ∃ Wn, Wn = wx ∧ p = .bool false ∧ Below wr.heap.size wr wx)
                          case first =>
                            refine wp_region_des ((Tryz.f4.body.bind fun c => regOps c 32).getD #[]) (by kernel_rfl) [isV (.pointer (some ⟨X, 3, none⟩)), isV (.slice (some ⟨g9, o9, none⟩) b9.length k9), isV (.int .i64 i), isV (.pointer (some ⟨g9, o9 + i * 7, none⟩)), isV (.pointer (some ⟨g9, o9 + i * 7 + 6, none⟩)), isV (.slice (some ⟨zb, zo, none⟩) Z.bn Z.bc), isV (.int .i64 j), isV (.pointer (some ⟨zb, zo + j * 2, none⟩)), isV (.pointer (some ⟨zb, zo + j * 2 + 1, none⟩)), isV (.int .i64 x), isV (.pointer (some ⟨S, 0, none⟩)), isV (.int .i64 c), isV (.bool false)] [] (by kernel_rfl) (by kernel_rfl) (by kernel_rfl) ?hg ?hstep ?hfin
                            case hg =>
                              intro g hg v w h
                              cases hg
                            case hstep =>
                              refine AllOps.cons 1 rfl ?_ ?_
                              · intro T w' hb hl hd
                                have h0 : T.getD 7 undef = .pointer (some ⟨X, 0, none⟩) := hl 7 (by kernel_rfl)
                                exact Or.inl ⟨.pointer (some ⟨X, 3, none⟩), w', by go_simp, rfl, Below.refl _ _⟩
                              refine AllOps.cons 2 rfl ?_ ?_
                              · intro T w' hb hl hd
                                have h0 : T.getD 183 undef = .pointer (some ⟨X, 3, none⟩) := hd 0 183 (by kernel_rfl)
                                have cc := cell_later hb D3.out
                                exact Or.inl ⟨.slice (some ⟨g9, o9, none⟩) b9.length k9, w', by go_simp, rfl, Below.refl _ _⟩
                              refine AllOps.cons 3 rfl ?_ ?_
                              · intro T w' hb hl hd
                                have h0 : T.getD 17 undef = .int .i64 i := hl 17 (by kernel_rfl)
                                exact Or.inl ⟨.int .i64 i, w', by go_simp, rfl, Below.refl _ _⟩
                              refine AllOps.cons 4 rfl ?_ ?_
                              · intro T w' hb hl hd
                                have h0 : T.getD 184 undef = .slice (some ⟨g9, o9, none⟩) b9.length k9 := hd 1 184 (by kernel_rfl)
                                have h1 : T.getD 185 undef = .int .i64 i := hd 2 185 (by kernel_rfl)
                                exact Or.inl ⟨.pointer (some ⟨g9, o9 + i * 7, none⟩), w', by go_simp, rfl, Below.refl _ _⟩
                              refine AllOps.cons 5 rfl ?_ ?_
                              · intro T w' hb hl hd
                                have h0 : T.getD 186 undef = .pointer (some ⟨g9, o9 + i * 7, none⟩) := hd 3 186 (by kernel_rfl)
                                exact Or.inl ⟨.pointer (some ⟨g9, o9 + i * 7 + 6, none⟩), w', by go_simp, rfl, Below.refl _ _⟩
                              refine AllOps.cons 6 rfl ?_ ?_
                              · intro T w' hb hl hd
                                have h0 : T.getD 187 undef = .pointer (some ⟨g9, o9 + i * 7 + 6, none⟩) := hd 4 187 (by kernel_rfl)
                                have cc := cell_later hb Z6.out
                                exact Or.inl ⟨.slice (some ⟨zb, zo, none⟩) Z.bn Z.bc, w', by go_simp, rfl, Below.refl _ _⟩
                              refine AllOps.cons 7 rfl ?_ ?_
                              · intro T w' hb hl hd
                                have h0 : T.getD 19 undef = .int .i64 j := hl 19 (by kernel_rfl)
                                exact Or.inl ⟨.int .i64 j, w', by go_simp, rfl, Below.refl _ _⟩
                              refine AllOps.cons 8 rfl ?_ ?_
                              · intro T w' hb hl hd
                                have h0 : T.getD 188 undef = .slice (some ⟨zb, zo, none⟩) Z.bn Z.bc := hd 5 188 (by kernel_rfl)
                                have h1 : T.getD 189 undef = .int .i64 j := hd 6 189 (by kernel_rfl)
                                exact Or.inl ⟨.pointer (some ⟨zb, zo + j * 2, none⟩), w', by go_simp, rfl, Below.refl _ _⟩
                              refine AllOps.cons 9 rfl ?_ ?_
                              · intro T w' hb hl hd
                                have h0 : T.getD 190 undef = .pointer (some ⟨zb, zo + j * 2, none⟩) := hd 7 190 (by kernel_rfl)
                                exact Or.inl ⟨.pointer (some ⟨zb, zo + j * 2 + 1, none⟩), w', by go_simp, rfl, Below.refl _ _⟩
                              refine AllOps.cons 10 rfl ?_ ?_
                              · intro T w' hb hl hd
                                have h0 : T.getD 191 undef = .pointer (some ⟨zb, zo + j * 2 + 1, none⟩) := hd 8 191 (by kernel_rfl)
                                have cc := cell_later hb X1.out
                                exact Or.inl ⟨.int .i64 x, w', by go_simp, rfl, Below.refl _ _⟩
                              refine AllOps.cons 11 rfl ?_ ?_
                              · intro T w' hb hl hd
                                have h0 : T.getD 3 undef = .pointer (some ⟨S, 0, none⟩) := hl 3 (by kernel_rfl)
                                exact Or.inl ⟨.pointer (some ⟨S, 0, none⟩), w', by go_simp, rfl, Below.refl _ _⟩
                              refine AllOps.cons 12 rfl ?_ ?_
                              · intro T w' hb hl hd
                                have h0 : T.getD 193 undef = .pointer (some ⟨S, 0, none⟩) := hd 10 193 (by kernel_rfl)
                                have cc := cell_later hb S0.out
                                exact Or.inl ⟨.int .i64 c, w', by go_simp, rfl, Below.refl _ _⟩
                              refine AllOps.cons 13 rfl ?_ ?_
                              · intro T w' hb hl hd
                                have h0 : T.getD 192 undef = .int .i64 x := hd 9 192 (by kernel_rfl)
                                have h1 : T.getD 194 undef = .int .i64 c := hd 11 194 (by kernel_rfl)
                                have q1 : ¬ (x < c) := by omega
                                exact Or.inl ⟨.bool false, w', by go_simp, rfl, Below.refl _ _⟩
                              exact trivial
                            case hfin =>
                              intro T w' hb hs hl hd
                              have e1 : T.getD 195 undef = .bool false := hd 12 195 (by kernel_rfl)
                              rw [lit_then [true, true, true, true, true, true, true, true, true, true, true, true, true, true, true, true, true, true, true, true, true, true, true, true, true, true, true, true, true, true, true, true, true, true, true, true, true, true, true, true, true, true, true, true, true, true, true, true, true, true, true, true, true, true, true, true, true, true, true, true, true, true, true, true, true, true, true, true, true, true, true, true, true, true, true, true, true, true, true, true, true, true, true, true, true, true, true, true, true, true, true, true, true, true, true, true, true, true, true, true, true, true, true, true, true, true, true, true, true, true, true, true, true, true, true, true, true, true, true, true, true, true, true, true, true, true, true, true, true, true, true, true, true, true, true, true, true, true, true, true, true, true, true, true, true, true, true, true, true, true, true, true, true, true, true, true, true, true, true, true, true, true, true, true, true, true, true, true, true, true, true, true, true, true, true, true, true, true, true, true, true, true, true, false, false, false, false, false, false, false, false, false, false, false, false, false, true] (by kernel_rfl) hs hl]
                              obtain ⟨us, hus⟩ : ∃ us : Nat → Value, (fun d => T.getD d undef) = us := ⟨_, rfl⟩
                              rw [hus]
                              have f1 : us 195 = .bool false := by rw [← hus]; exact e1
                              apply_assumption
                              simp only [fillL]
                              go_meet
                              exact ⟨_, rfl, f1, hb⟩
                          case rest =>
                            obtain ⟨w6, rfl, rfl, hb6⟩ := hcut
                            have HB7 := hid hb6
                            clear hb6 d0 d1 d2 d3 s0 s1 s2 s3 z6
                            go_wp2
                            go_roundg (Z.bn - (j + 1))
                            case measure => omega
                            case rel => exact ⟨j + 1, by go_num, by omega, by omega, below_from HBZ.out HB7.out⟩
                        · obtain rfl : j = Z.bn := by omega
                          go_wp2
                          go_roundg (bn - (k + 1))
                          case measure => omega
                          case rel => exact ⟨k + 1, by go_num, by omega, by omega, below_from (below_from HBR.out hb3) HB6.out⟩
                · go_wp2
                  go_roundg (bn - (k + 1))
                  case measure => omega
                  case rel => exact ⟨k + 1, by go_num, by omega, by omega, HB3.out⟩
      · obtain rfl : k = bn := by omega
        go_wp2_with fail
        refine (cutBegun_any wr).mono ?_
        rintro e w3 ⟨rfl, hb⟩
        have HB3 := hid (below_from (below_from HB2.out HBR.out) hb)
        clear hb
        go_wp2
        go_ret
        exact ⟨rfl, HB3.out⟩
end Go.Proofs.YtecibbokbonmcaeGreat

/- What the second form's bound gives of a slice that came in: its length. -/
namespace Go.Proofs.YtecibbokbonmcaeGreat
open Go.ChangeShapes Go.WideShapes Go.ChangeAt Go.RowKit

theorem bulk_one {H : Type} (d : DataW H) : 1 ≤ Rows.uptoBulk d := by
  cases d with
  | lit l => cases l <;> simp [Rows.uptoBulk]
  | nil => simp [Rows.uptoBulk]
  | ptr d => simp [Rows.uptoBulk]
  | slice elems spare => simp [Rows.uptoBulk]
  | agg parts => simp [Rows.uptoBulk]
  | iface t d => simp [Rows.uptoBulk]
  | map entries => simp [Rows.uptoBulk]
  | held h => simp [Rows.uptoBulk]
theorem bulk_len {H : Type} (l : List (DataW H)) : l.length ≤ Rows.uptoBulkAll l := by
  induction l with
  | nil => simp [Rows.uptoBulkAll]
  | cons x r ih => have := bulk_one x; simp only [Rows.uptoBulkAll, List.length_cons]; omega
/-- a slice's length is below what it is counted for -/
theorem bulk_slice {H : Type} {enc : TypeId × Value → H} {W : World} {base : Nat} {spare : Nat → Bool} {held : Bool} {t e : TypeId} {a : Option Addr} {len cap : Nat} {d : DataW H} {p : List MemPlace}
    (ht : Tryz.prog.underlying t = some (.slice e)) (h : DataW.Trod enc Tryz.prog W base spare held t (.slice a len cap) d p) : len ≤ Rows.uptoBulk d := by
  obtain ⟨fuel, hf⟩ := h
  rcases DataW.trod_slice ht hf with ⟨h1, h2⟩ | ⟨ad, len', cap', elems, rest, n, _, h1, h2, _, _, _, h3, _⟩
  · simp [Value.cells] at h1
    omega
  · simp [Value.cells] at h1
    obtain ⟨_, rfl, _⟩ := h1
    have e1 : d = .slice (elems.map (·.1)) (rest.map (·.1)) := congrArg Prod.fst h2
    have e2 := bulk_len (elems.map (·.1))
    rw [List.length_map, h3] at e2
    rw [e1]
    simp only [Rows.uptoBulk]
    omega
theorem bulk_bound {H : Type} {l : List (DataW H)} (hk : Rows.uptoSmall H l = true) : Rows.uptoBulkAll l ≤ 1048576 := of_decide_eq_true hk
end Go.Proofs.YtecibbokbonmcaeGreat
