/- Several texts in one: FairB, Bulk. -/
import Derived.Test.YtecibbokbonmcaeGreatKAll10
import Derived.Deep.LoopGhost
import Derived.Deep.DeepCutAuto
import Derived.Lib.AppendZeros
import Derived.Test.YtecibbokbonmcaeGreatKAll3
import Derived.JoinedCond
/- The statement CutFair: its function answers yes, whatever comes in. -/
namespace Go.Proofs.YtecibbokbonmcaeGreat
open Go.RowKit

set_option maxRecDepth 100000 in
set_option maxHeartbeats 8000000 in
theorem CutFair_any (w : World) (c n : Int) (ta : Option Addr) (tn tc : Nat) (l : QL) (ba : Option Addr) (bn bc : Nat) (b : BL) (h : StIn w ta tn tc l ba bn bc b) (q : Int) (ra : Option Addr) (rn rc : Nat) (rs : RunL) (hr : RunsIn w ra rn rc rs) (hrn : rn ≤ 1048576) :
    Calls Tryz.prog 6 #[.agg #[.int .i64 c, .int .i64 n, .slice ta tn tc, .slice ba bn bc], .int .i64 q, .slice ra rn rc] w fun e w' => e = .returned (.bool true) ∧ Below w.heap.size w w' := by
  obtain ⟨S, hS⟩ : ∃ S, w.heap.size = S := ⟨_, rfl⟩
  obtain ⟨W1, hW1⟩ : ∃ W1, W1 = w.alloc (.cells #[.int .i64 c, .int .i64 n, .slice ta tn tc, .slice ba bn bc] 25) := ⟨_, rfl⟩
  have hb0 : Below w.heap.size w W1 := by rw [hW1]; exact (Below.refl _ _).alloc (Nat.le_refl _) _
  have x1 : StBox W1 S (.int .i64 c) (.int .i64 n) (.slice ta tn tc) (.slice ba bn bc) := by rw [hW1, ← hS]; exact StBox.new w _ _ _ _
  have K1 := hid (Change_all W1 c n ta tn tc l ba bn bc b (h.later hb0) q ra rn rc rs (hr.later hb0) hrn)
  have HH := hid h
  have HRR := hid hr
  have X1 := hid x1
  have HB0 := hid hb0
  have HW1 := hid hW1
  have HSS := hid hS
  obtain ⟨c0, c1, c2, c3⟩ := x1.cells
  clear x1 hb0 hW1 h hr
  go_enter Tryz.func6, Tryz.ntmps6
  go_wp2_with fail
  rw [← HW1.out]
  refine K1.out.mono ?_
  rintro e w1 (⟨E, hE, rfl, hb⟩ | ⟨hp, hq0, hq1, ht, hch⟩)
  · have hne : (E != 0) = true := by simp [hE]
    obtain ⟨U1, hU⟩ : ∃ U, U = w1.alloc (.cells #[.int .i64 0, .int .i64 0, .slice none 0 0, .slice none 0 0] 25) := ⟨_, rfl⟩
    have HBU := hid (below_from (below_from HB0.out hb) (show Below w1.heap.size w1 U1 by rw [hU]; exact (Below.refl _ _).alloc (Nat.le_refl _) _))
    have HU := hid hU
    clear hb hU c0 c1 c2 c3 hE
    go_wp2_with fail
    rw [← HU.out]
    refine (cutBegun_any U1).mono ?_
    rintro e w2 ⟨rfl, hb⟩
    have HB2 := hid (below_from HBU.out hb)
    clear hb
    go_wp2
    go_ret
    exact ⟨rfl, HB2.out⟩
  · obtain ⟨Q, rfl⟩ : ∃ Q : Nat, q = Q := ⟨q.toNat, by omega⟩
    rw [Int.toNat_natCast] at ht hch
    have hSo := sound_of hp
    have hql : Q < l.length := by have := HH.out.1.len; omega
    obtain ⟨C, rfl⟩ : ∃ C : Nat, c = C := ⟨c.toNat, by have := hSo.c0; omega⟩
    have hC48 : C ≤ 48 := by have := hSo.c48; omega
    obtain ⟨g, k1, l9, aa, k9, b9, b0, b1, aw, mv, dr, ma, mk, da, dk, rfl, hs, hl9, hbb0, hlit, hno, hstl, hm, hd, hb⟩ := hch
    have HFAIR := hid (fair_at hSo ht hl9 hbb0 hlit hstl)
    have HCL := hid (cap_clean hSo.clean ht)
    have HSO := hid hSo
    have hfw := hstl.few
    have hfl := hlit.clean (clean_cap (clean_same hSo.clean hbb0) (by rw [← chkT_bare, hl9, chkT_bare]; exact ht) (by have h1 := congrArg List.length hl9; rw [len_bareQ, len_bareQ, capL_len] at h1; exact h1)) hSo.c0
    have hb12 := hSo.clean.few
    have hbl0 : b0.length = b.length := bare_len hbb0
    have hm24 : mv.length ≤ 24 ∧ dr.length ≤ 24 := by omega
    have HMI := hid hm
    have HDI := hid hd
    have HMO := hid (modest1_of HH.out hSo.clean)
    obtain ⟨U1, hU⟩ : ∃ U, U = w1.alloc (.cells #[.int .i64 (C : Int), .int .i64 n, .slice (some ⟨g, 0, none⟩) tn k1, .slice aa b9.length k9] 25) := ⟨_, rfl⟩
    have hbU : Below w1.heap.size w1 U1 := by rw [hU]; exact (Below.refl _ _).alloc (Nat.le_refl _) _
    obtain ⟨X, hX⟩ : ∃ X, w1.heap.size = X := ⟨_, rfl⟩
    have x2 : StBox U1 X (.int .i64 (C : Int)) (.int .i64 n) (.slice (some ⟨g, 0, none⟩) tn k1) (.slice aa b9.length k9) := by rw [hU, ← hX]; exact StBox.new w1 _ _ _ _
    have HX := hid x2
    have HSB := hid ((X1.out.later hb).later hbU)
    have HBU := hid (below_from (below_from HB0.out hb) hbU)
    have HMU := hid (hm.under hbU)
    have HDU := hid (hd.under hbU)
    have KO := hid (OwnState_any U1 (C : Int) n ta tn tc l ba bn bc b (HH.out.later HBU.out) HMO.out)
    have HU := hid hU
    obtain ⟨s0, s1, s2, s3⟩ := HSB.out.cells
    rw [hU] at s0 s1 s2 s3
    have hq1' : ¬ ((tn : Int) ≤ Q) := by omega
    have hq0' : ¬ ((Q : Int) < 0) := by omega
    clear hp hq0 ht hs hl9 hbb0 hlit hno hstl hm hd hb hU hbU x2 K1 hSo hql c0 c1 c2 c3 hfw hfl hb12 hbl0 HMI HDI
    go_wp2_with fail
    rw [← HU.out]
    refine KO.out.mono ?_
    rintro e w2 ⟨L, g2, m1, l2, ab, m9, b2, rfl, hg0, hgL, hOQ, hl2, hbq2, hcaps, hOB, hb2l, hbb2, hoff, hb⟩
    obtain ⟨P, hP⟩ : ∃ P, w2.heap.size = P := ⟨_, rfl⟩
    obtain ⟨U2, hU2⟩ : ∃ U, U = w2.alloc (.cells #[.int .i64 (C : Int), .int .i64 n, .slice (some ⟨g2, 0, none⟩) tn m1, .slice ab bn m9] 25) := ⟨_, rfl⟩
    have hbU2 : Below w2.heap.size w2 U2 := by rw [hU2]; exact (Below.refl _ _).alloc (Nat.le_refl _) _
    have p2 : StBox U2 P (.int .i64 (C : Int)) (.int .i64 n) (.slice (some ⟨g2, 0, none⟩) tn m1) (.slice ab bn m9) := by rw [hU2, ← hP]; exact StBox.new w2 _ _ _ _
    have hB2 := below_from (below_from HBU.out hb) hbU2
    have hOQ2 := hOQ.later hbU2
    have hrr2 : RunsIn U2 ra rn rc rs := HRR.out.later hB2
    have hgw : w.heap.size ≤ g2 := Nat.le_trans HBU.out.size hg0
    have hfar : 0 < rn → ∀ b off, ra = some ⟨b, off, none⟩ → b ≠ g2 := fun hp b off e => by have := HRR.out.lt hp e; omega
    have hst := hOQ2.store hl2 (j := Q) (by omega) hrr2 hfar
    obtain ⟨V, hV⟩ : ∃ V, V = U2.setCell ⟨g2, Q * 3 + 2, none⟩ (.slice ra rn rc) := ⟨_, rfl⟩
    rw [← hV] at hst
    have oV : ∀ k, k ≠ g2 → V.heap[k]? = U2.heap[k]? := fun k hk => by rw [hV]; exact heap_setCell_other U2 ⟨g2, Q * 3 + 2, none⟩ k _ hk
    have hBV : Below w.heap.size w V := by rw [hV]; exact hB2.setCell (p := ⟨g2, Q * 3 + 2, none⟩) hgw _
    have hsz2 : w2.heap.size ≤ U2.heap.size := hbU2.size
    have hgP : g2 < w2.heap.size := (hOQ.row.lt g2 (own_is.2 rfl)).2
    have hLg : ∀ k, L ≤ k → k ≠ g2 := fun k hk => by omega
    have hOB2 := hOB.later hbU2
    have hbkV : BksIn V ab bn m9 b2 := own_bks_is (hOB2.blocks (fun k e => oV k (hLg k (hOB2.row.lt k e).1)) (fun i hi hp k off e => oV k (hLg k ((hoff i (by omega)).1 hp k off e))) (fun i hi hp k off e => oV k (hLg k ((hoff i (by omega)).2 hp k off e))))
    have hqV : QsIn V (some ⟨g2, 0, none⟩) tn m1 _ := own_qs_is hst
    have pV : StBox V P (.int .i64 (C : Int)) (.int .i64 n) (.slice (some ⟨g2, 0, none⟩) tn m1) (.slice ab bn m9) := (oV P (by omega)).trans p2
    have hbUV : Below U1.heap.size U1 V := by rw [hV]; exact (below_from hb hbU2).setCell (p := ⟨g2, Q * 3 + 2, none⟩) hg0 _
    have sV := HSB.out.later hbUV
    have xV := HX.out.later hbUV
    have hmV := HMU.out.under hbUV
    have hdV := HDU.out.under hbUV
    have hbare := bareQ_cap hbq2 Q ra rn rc rs
    obtain ⟨l3, hl3⟩ : ∃ l3, l3 = l2.set Q ⟨(qu l2 Q).name, (qu l2 Q).parent, ra, rn, rc, rs⟩ := ⟨_, rfl⟩
    rw [← hl3] at hqV hbare
    obtain ⟨V1, hV1⟩ : ∃ V1, V1 = V.alloc (.cells #[] 3) := ⟨_, rfl⟩
    have hbV1 : Below V.heap.size V V1 := by rw [hV1]; exact (Below.refl _ _).alloc (Nat.le_refl _) _
    have hB0 : V.heap.size ≤ V1.heap.size := hbV1.size
    have ho0 : OwnInts V1 V.heap.size (.slice (some ⟨V.heap.size, 0, none⟩) 0 0) [] := by rw [hV1]; exact World.ownsRow_made V #[] 0 (Nat.le_refl _) (Nat.zero_le _) (by simp)
    obtain ⟨r1, X1', hr1, hor1, hgr1⟩ := app_ints V1 V.heap.size _ [] ho0 (by simp) ma mv.length mk mv (own_ints_is (hmV.under hbV1)) (own_none hmV) (by omega) hB0
    have hb1 : Below V.heap.size V X1' := hbV1.grown hgr1 hB0 (fun k e => (ho0.lt k e).1)
    obtain ⟨r2, WZ, hr2, hor2, hgr2⟩ := app_ints X1' V.heap.size _ _ hor1 (by simp; omega) da dr.length dk dr (own_ints_is (hdV.under hb1)) (own_none hdV) (by omega) hb1.size
    have hbZ : Below V.heap.size V WZ := hb1.grown hgr2 hb1.size (fun k e => (hor1.lt k e).1)
    have hor3 : OwnInts WZ V.heap.size r2 (mv ++ dr) := hor2
    obtain ⟨aw2, ka, hr2e, hai⟩ := hor3.parts
    obtain ⟨N, hN⟩ : ∃ N, (mv ++ dr).length = N := ⟨_, rfl⟩
    have hN24 : N ≤ 48 := by rw [← hN]; simp; omega
    rw [hN] at hr2e hai
    subst hr2e
    have HAI := hid hai
    have HPZ := hid (pV.later hbZ)
    have HSZ := hid (sV.later hbZ)
    have HBZ := hid (below_from hBV hbZ)
    have HQZ := hid (hqV.later hbZ)
    have HKZ := hid (hbkV.later hbZ)
    have HBARE := hid hbare
    have HBB2 := hid hbb2
    have HCLL := HCL.out
    have hchk : chkL l3 b2 = 0 := (chkL_same hbare hbb2).trans (chkL_clean HCLL)
    have hbl2 : b2.length = b.length := bare_len hbb2
    have KT := Of_any WZ _ tn m1 l3 HQZ.out ab bn m9 b2 HKZ.out
    rw [hchk] at KT
    have HKT := hid KT
    have HV := hid hV
    have HTK : Hid (takenTo l3 b2 b2.length = takenTo (capL l Q rs) b b.length) := by show _ = _; rw [taken_bare hbare hbb2, hbl2]
    have g0 : U2.cell? ⟨g2, Q * 3 + 2, none⟩ = some (.slice (qu l2 Q).ca (qu l2 Q).cn (qu l2 Q).cc) := by
      have hrow := hOQ2.row
      rw [← hl2] at hrow
      rw [hrow.cellAt (Q * 3 + 2) (by omega), quCells_at l2 Q 2 (by omega) (by omega)]
      rfl
    have gf : U2.frozen? ⟨g2, Q * 3 + 2, none⟩ = false := by
      have hrow := hOQ2.row
      rw [← hl2] at hrow
      exact hrow.frozenAt _
    obtain ⟨p0, p1, p2', p3⟩ := p2.cells
    obtain ⟨v0, v1, v2, v3⟩ := pV.cells
    have hm1 := hqV.le
    have hm2 := hqV.capb
    have hm9 := hbkV.le
    have hm9b := hbkV.capb
    rw [hU2] at p0 p1 p2' p3 g0 gf hV
    rw [hV1, hV] at hr1
    have hsz0 : (((w2.alloc (.cells #[.int .i64 (C : Int), .int .i64 n, .slice (some ⟨g2, 0, none⟩) tn m1, .slice ab bn m9] 25)).setCell ⟨g2, Q * 3 + 2, none⟩ (.slice ra rn rc)).heap.size) = P + 1 := by simp [World.setCell, hP]
    rw [hsz0] at hr1
    have hQt : (Q : Int) < tn := by omega
    clear hg0 hgL hOQ hl2 hbq2 hcaps hOB hb2l hoff hb hU2 hbU2 p2 hB2 hOQ2 hrr2 hgw hfar hst hV oV hBV hsz2 hgP hLg hOB2 hbkV hqV pV sV xV hbare hbUV v0 v1 v2 v3 hmV hdV hl3 hV1 hbV1 hB0 ho0 hor1 hgr1 hb1 hor2 hor3 hgr2 hbZ hai hN hchk hbl2 KT s0 s1 s2 s3 hsz0 HCLL hbb2
    obtain ⟨z0, z1, z2, z3⟩ := HPZ.out.cells
    go_wp2_with (first
      | (at_builtin; refine Lib.wpList_append_run _ rfl _ _ _ _ rfl _ _ rfl rfl _ _ (hr1 _) ?_; clear hr1)
      | (at_builtin; refine Lib.wpList_append_run _ rfl _ _ _ _ rfl _ _ rfl rfl _ _ (hr2 _) ?_; clear hr2)
      | fail)
    refine HKT.out.mono ?_
    rintro e w6 ⟨a0, m0, c0, rfl, hok, _, hb⟩
    obtain ⟨G1, rfl, rfl, rfl, hT⟩ := hok rfl
    have HB6 := hid (below_from HBZ.out hb)
    have HP6 := hid (HPZ.out.later hb)
    have HS6 := hid (HSZ.out.later hb)
    have HQ6 := hid (HQZ.out.later hb)
    have HK6 := hid (HKZ.out.later hb)
    have HA6 := hid (HAI.out.later hb)
    have HT6 := hid hT
    clear hb hT hok z0 z1 z2 z3 p0 p1 p2' p3 g0 gf
    obtain ⟨z0, z1, z2, z3⟩ := HP6.out.cells
    have htt : ((tn : Int) != tn) = false := by simp
    have hkale := HA6.out.le
    have hkab := HA6.out.capb
    go_wp2_with fail
    go_loopg [15] N (fun gk (p : Value) wr => ∃ i : Nat, p = .int .i64 i ∧ i ≤ N ∧ gk = N - i ∧ Below w6.heap.size w6 wr)
    case atStart => exact ⟨0, rfl, by omega, by omega, Below.refl _ _⟩
    case round =>
      obtain ⟨i, rfl, hi, rfl, hbr⟩ := hrel
      have HBR := hid hbr
      clear z0 z1 z2 z3 hbr
      by_cases hlt : i < N
      · have hlt' : (i : Int) < N := by omega
        obtain ⟨ga, oa, rfl, hca⟩ := (HA6.out.later HBR.out).cells (by omega)
        have ci := hca i hlt
        obtain ⟨id, hid'⟩ : ∃ id, (mv ++ dr).getD i 0 = id := ⟨_, rfl⟩
        rw [hid'] at ci
        have hmem : id ∈ mv ++ dr := by
          rw [← hid']
          have hN' : (mv ++ dr).length = N := HA6.out.len.symm
          rw [List.getD_eq_getElem?_getD, List.getElem?_eq_getElem (by omega)]
          exact List.getElem_mem (by omega)
        obtain ⟨k, hk, hfe, hfi, t0, q0, ht0, ht1, hq0', hov, hmi⟩ := HFAIR.out id hmem
        have hbl := HH.out.2.len
        have hkb : k < bn := by omega
        have HHIT := hid (And.intro (And.intro ht0 ht1) (And.intro hq0' (And.intro hov hmi)))
        have HHR := HH.out.later (below_from HB6.out HBR.out)
        have KF : Hid (∀ V, Below wr.heap.size wr V → Calls Tryz.prog 16 #[.agg #[.int .i64 (C : Int), .int .i64 n, .slice ta tn tc, .slice ba bn bc], .int .i64 id] V fun e w' => e = .returned (.tuple #[.int .i64 (k : Int), .int .i64 0]) ∧ Below V.heap.size V w') := fun V hV => by
          have := FindS_any V C n ta tn tc l ba bn bc b (HHR.later hV) id
          rw [hfe, hfi] at this
          exact this
        have HHR' := hid HHR
        obtain ⟨d0, d1, d2, d3⟩ := (HS6.out.later HBR.out).cells
        have D0 := hid d0
        have D1 := hid d1
        have D2 := hid d2
        have D3 := hid d3
        have CI := hid ci
        clear hca ci hid' hmem hk hfe hfi ht0 ht1 hq0' hov hmi hbl HHR
        go_wp2_with fail
        go_cut [16, 17] (fun p q wx => ∃ Wn, Wn = wx ∧ p = .int .i64 (k : Int) ∧ q = .int .i64 0 ∧ Below wr.heap.size wr wx)
        case first =>
          refine wp_region_des ((Tryz.f6.body.bind fun c => regOps c 13).getD #[]) (by kernel_rfl) [isV (.agg #[.int .i64 (C : Int), .int .i64 n, .slice ta tn tc, .slice ba bn bc]), isV (.slice (some ⟨ga, oa, none⟩) N ka), isV (.int .i64 i), isV (.pointer (some ⟨ga, oa + i, none⟩)), isV (.int .i64 id), isV (.tuple #[.int .i64 (k : Int), .int .i64 0]), isV (.tuple #[.int .i64 (k : Int), .int .i64 0]), isV (.int .i64 (k : Int)), isV (.int .i64 0), isV (.int .i64 (k : Int)), isV (.int .i64 0)] [] (by kernel_rfl) (by kernel_rfl) (by kernel_rfl) ?hg ?hstep ?hfin
          case hg =>
            intro g hg v w h
            cases hg
          case hstep =>
            refine AllOps.cons 1 rfl ?_ ?_
            · intro T w' hb hl hd
              have h0 : T.getD 3 undef = .pointer (some ⟨S, 0, none⟩) := hl 3 (by kernel_rfl)
              have cc0 := cell_later hb D0.out
              have cc1 := cell_later hb D1.out
              have cc2 := cell_later hb D2.out
              have cc3 := cell_later hb D3.out
              exact Or.inl ⟨.agg #[.int .i64 (C : Int), .int .i64 n, .slice ta tn tc, .slice ba bn bc], w', by go_simp, rfl, Below.refl _ _⟩
            refine AllOps.cons 2 rfl ?_ ?_
            · intro T w' hb hl hd
              have h0 : T.getD 12 undef = .slice (some ⟨ga, oa, none⟩) N ka := hl 12 (by kernel_rfl)
              exact Or.inl ⟨.slice (some ⟨ga, oa, none⟩) N ka, w', by go_simp, rfl, Below.refl _ _⟩
            refine AllOps.cons 3 rfl ?_ ?_
            · intro T w' hb hl hd
              have h0 : T.getD 15 undef = .int .i64 i := hl 15 (by kernel_rfl)
              exact Or.inl ⟨.int .i64 i, w', by go_simp, rfl, Below.refl _ _⟩
            refine AllOps.cons 4 rfl ?_ ?_
            · intro T w' hb hl hd
              have h0 : T.getD 95 undef = .slice (some ⟨ga, oa, none⟩) N ka := hd 1 95 (by kernel_rfl)
              have h1 : T.getD 96 undef = .int .i64 i := hd 2 96 (by kernel_rfl)
              exact Or.inl ⟨.pointer (some ⟨ga, oa + i, none⟩), w', by go_simp, rfl, Below.refl _ _⟩
            refine AllOps.cons 5 rfl ?_ ?_
            · intro T w' hb hl hd
              have h0 : T.getD 97 undef = .pointer (some ⟨ga, oa + i, none⟩) := hd 3 97 (by kernel_rfl)
              have cc := cell_later hb CI.out
              exact Or.inl ⟨.int .i64 id, w', by go_simp, rfl, Below.refl _ _⟩
            refine AllOps.cons 6 rfl ?_ ?_
            · intro T w' hb hl hd
              have h0 : T.getD 94 undef = .agg #[.int .i64 (C : Int), .int .i64 n, .slice ta tn tc, .slice ba bn bc] := hd 0 94 (by kernel_rfl)
              have h1 : T.getD 98 undef = .int .i64 id := hd 4 98 (by kernel_rfl)
              refine Or.inr ⟨16, #[.agg #[.int .i64 (C : Int), .int .i64 n, .slice ta tn tc, .slice ba bn bc], .int .i64 id], by go_simp, ?_⟩
              refine (KF.out w' hb).mono ?_
              rintro e w'' ⟨rfl, hbb⟩
              exact ⟨_, rfl, rfl, hbb⟩
            refine AllOps.cons 7 rfl ?_ ?_
            · intro T w' hb hl hd
              have h0 : T.getD 99 undef = .tuple #[.int .i64 (k : Int), .int .i64 0] := hd 5 99 (by kernel_rfl)
              exact Or.inl ⟨.tuple #[.int .i64 (k : Int), .int .i64 0], w', by go_simp, rfl, Below.refl _ _⟩
            refine AllOps.cons 8 rfl ?_ ?_
            · intro T w' hb hl hd
              have h0 : T.getD 93 undef = .tuple #[.int .i64 (k : Int), .int .i64 0] := hd 6 93 (by kernel_rfl)
              exact Or.inl ⟨.int .i64 (k : Int), w', by go_simp, rfl, Below.refl _ _⟩
            refine AllOps.cons 9 rfl ?_ ?_
            · intro T w' hb hl hd
              have h0 : T.getD 93 undef = .tuple #[.int .i64 (k : Int), .int .i64 0] := hd 6 93 (by kernel_rfl)
              exact Or.inl ⟨.int .i64 0, w', by go_simp, rfl, Below.refl _ _⟩
            refine AllOps.cons 10 rfl ?_ ?_
            · intro T w' hb hl hd
              have h0 : T.getD 100 undef = .int .i64 (k : Int) := hd 7 100 (by kernel_rfl)
              exact Or.inl ⟨.int .i64 (k : Int), w', by go_simp, rfl, Below.refl _ _⟩
            refine AllOps.cons 11 rfl ?_ ?_
            · intro T w' hb hl hd
              have h0 : T.getD 101 undef = .int .i64 0 := hd 8 101 (by kernel_rfl)
              exact Or.inl ⟨.int .i64 0, w', by go_simp, rfl, Below.refl _ _⟩
            exact trivial
          case hfin =>
            intro T w' hb hs hl hd
            have e1 : T.getD 16 undef = .int .i64 (k : Int) := hd 9 16 (by kernel_rfl)
            have e2 : T.getD 17 undef = .int .i64 0 := hd 10 17 (by kernel_rfl)
            rw [lit_then [true, true, true, true, true, true, true, true, true, true, true, true, true, true, true, true, false, false, true, true, true, true, true, true, true, true, true, true, true, true, true, true, true, true, true, true, true, true, true, true, true, true, true, true, true, true, true, true, true, true, true, true, true, true, true, true, true, true, true, true, true, true, true, true, true, true, true, true, true, true, true, true, true, true, true, true, true, true, true, true, true, true, true, true, true, true, true, true, true, true, true, true, true, false, false, false, false, false, false, false, false, false, true, true, true, true, true, true, true, true, true, true, true, true, true, true, true, true, true, true, true, true, true, true, true, true, true, true, true, true, true, true, true, true, true, true, true, true, true, true, true, true, true, true, true, true, true, true, true, true, true, true, true, true, true, true, true, true, true, true, true, true, true, true, true, true, true, true, true, true, true, true, true, true, true, true, true, true, true, true, true, true, true, true, true, true, true, true, true, true, true, true, true, true, true, true, true, true, true, true, true, true, true, true] (by kernel_rfl) hs hl]
            obtain ⟨us, hus⟩ : ∃ us : Nat → Value, (fun d => T.getD d undef) = us := ⟨_, rfl⟩
            rw [hus]
            have f1 : us 16 = .int .i64 (k : Int) := by rw [← hus]; exact e1
            have f2 : us 17 = .int .i64 0 := by rw [← hus]; exact e2
            apply_assumption
            simp only [fillL]
            go_meet
            exact ⟨_, rfl, f1, f2, hb⟩
        case rest =>
          obtain ⟨w7, rfl, rfl, rfl, hb7⟩ := hcut
          have HB7 := hid (below_from HBR.out hb7)
          clear d0 d1 d2 d3 hb7
          obtain ⟨d0, d1, d2, d3⟩ := (HS6.out.later HB7.out).cells
          obtain ⟨z0, z1, z2, z3⟩ := (HP6.out.later HB7.out).cells
          have hq7 := HQ6.out.later HB7.out
          have hk7 := HK6.out.later HB7.out
          obtain ⟨gb, ob, hab, _⟩ := hk7.cells (by omega)
          rw [hab] at z3 hk7
          obtain ⟨M, hM⟩ : ∃ M, takenTo (capL l Q rs) [bk b k] 1 = M := ⟨_, rfl⟩
          have hone := clean_one HCL.out (k := k) (by have := HH.out.2.len; omega)
          have KM : Hid (∀ V, Below w7.heap.size w7 V → Calls Tryz.prog 24 #[.slice (some ⟨g2, 0, none⟩) tn m1, .slice (some ⟨gb, ob + k * 7, none⟩) 1 (m9 - k)] V fun e w' => ∃ G2, e = .returned (.tuple #[.slice (some ⟨G2, 0, none⟩) tn tn, .int .i64 0]) ∧ TakenIn w' G2 tn M ∧ Below V.heap.size V w') := fun V hV => by
            have hbo := bareB_one HBB2.out k
            have K := Of_any V _ tn m1 l3 (hq7.later hV) _ 1 (m9 - k) [bk b2 k] (bks_one (hk7.later hV) hkb)
            rw [(chkL_same HBARE.out hbo).trans (chkL_clean hone)] at K
            refine K.mono ?_
            rintro e w' ⟨a1, n1, c1, rfl, hok, _, hbb⟩
            obtain ⟨G2, rfl, rfl, rfl, hT⟩ := hok rfl
            refine ⟨G2, rfl, ?_, hbb⟩
            rw [← hM, ← taken_bare HBARE.out hbo]
            exact hT
          have HSL : Hid (∀ V : World, (Instr.slice 23 (.slice (some ⟨gb, ob, none⟩) bn m9) (some (.int .i64 (k : Int))) (some (.int .i64 ((k : Int) + 1))) none).run Tryz.prog V = .ok (.slice (some ⟨gb, ob + k * 7, none⟩) 1 (m9 - k)) V) := fun V => slice_one V gb ob bn m9 k hkb hm9
          have hk12 : k ≤ 12 := by have h1 := HSO.out.clean.few; have h2 := HH.out.2.len; omega
          have HM := hid hM
          have HONE := hid hone
          have P2 := hid z2
          have P3 := hid z3
          have hkbI : (k : Int) < bn := by omega
          have hk0 : ¬ ((k : Int) < 0) := by omega
          have hkn : ¬ ((bn : Int) ≤ k) := by omega
          clear hq7 hk7 hab hM hone
          go_wp2_with fail
          go_cut [18, 19] (fun p q wx => ∃ Wn, Wn = wx ∧ ∃ G2, p = .slice (some ⟨G2, 0, none⟩) tn tn ∧ q = .int .i64 0 ∧ TakenIn wx G2 tn M ∧ Below w7.heap.size w7 wx)
          case first =>
            refine wp_region_des ((Tryz.f6.body.bind fun c => regOps c 16).getD #[]) (by kernel_rfl) [isV (.pointer (some ⟨P, 2, none⟩)), isV (.slice (some ⟨g2, 0, none⟩) tn m1), isV (.pointer (some ⟨P, 3, none⟩)), isV (.slice (some ⟨gb, ob, none⟩) bn m9), isV (.int .i64 k), isV (.int .i64 k), isV (.int .i64 ((k : Int) + 1)), isV (.slice (some ⟨gb, ob + k * 7, none⟩) 1 (m9 - k)), ⟨fun u Z => ∃ G2, u = .tuple #[.slice (some ⟨G2, 0, none⟩) tn tn, .int .i64 0] ∧ TakenIn Z G2 tn M, fun _ _ _ ⟨G2, h1, h2⟩ hb => ⟨G2, h1, h2.later hb⟩⟩, ⟨fun u Z => ∃ G2, u = .tuple #[.slice (some ⟨G2, 0, none⟩) tn tn, .int .i64 0] ∧ TakenIn Z G2 tn M, fun _ _ _ ⟨G2, h1, h2⟩ hb => ⟨G2, h1, h2.later hb⟩⟩, ⟨fun u Z => ∃ G2, u = .slice (some ⟨G2, 0, none⟩) tn tn ∧ TakenIn Z G2 tn M, fun _ _ _ ⟨G2, h1, h2⟩ hb => ⟨G2, h1, h2.later hb⟩⟩, isV (.int .i64 0), ⟨fun u Z => ∃ G2, u = .slice (some ⟨G2, 0, none⟩) tn tn ∧ TakenIn Z G2 tn M, fun _ _ _ ⟨G2, h1, h2⟩ hb => ⟨G2, h1, h2.later hb⟩⟩, isV (.int .i64 0)] [] (by kernel_rfl) (by kernel_rfl) (by kernel_rfl) ?hg ?hstep ?hfin
            case hg =>
              intro g hg v w h
              cases hg
            case hstep =>
              refine AllOps.cons 1 rfl ?_ ?_
              · intro T w' hb hl hd
                have h0 : T.getD 11 undef = .pointer (some ⟨P, 0, none⟩) := hl 11 (by kernel_rfl)
                exact Or.inl ⟨.pointer (some ⟨P, 2, none⟩), w', by go_simp, rfl, Below.refl _ _⟩
              refine AllOps.cons 2 rfl ?_ ?_
              · intro T w' hb hl hd
                have h0 : T.getD 116 undef = .pointer (some ⟨P, 2, none⟩) := hd 0 116 (by kernel_rfl)
                have cc := cell_later hb P2.out
                exact Or.inl ⟨.slice (some ⟨g2, 0, none⟩) tn m1, w', by go_simp, rfl, Below.refl _ _⟩
              refine AllOps.cons 3 rfl ?_ ?_
              · intro T w' hb hl hd
                have h0 : T.getD 11 undef = .pointer (some ⟨P, 0, none⟩) := hl 11 (by kernel_rfl)
                exact Or.inl ⟨.pointer (some ⟨P, 3, none⟩), w', by go_simp, rfl, Below.refl _ _⟩
              refine AllOps.cons 4 rfl ?_ ?_
              · intro T w' hb hl hd
                have h0 : T.getD 118 undef = .pointer (some ⟨P, 3, none⟩) := hd 2 118 (by kernel_rfl)
                have cc := cell_later hb P3.out
                exact Or.inl ⟨.slice (some ⟨gb, ob, none⟩) bn m9, w', by go_simp, rfl, Below.refl _ _⟩
              refine AllOps.cons 5 rfl ?_ ?_
              · intro T w' hb hl hd
                have h0 : T.getD 16 undef = .int .i64 k := hl 16 (by kernel_rfl)
                exact Or.inl ⟨.int .i64 k, w', by go_simp, rfl, Below.refl _ _⟩
              refine AllOps.cons 6 rfl ?_ ?_
              · intro T w' hb hl hd
                have h0 : T.getD 16 undef = .int .i64 k := hl 16 (by kernel_rfl)
                exact Or.inl ⟨.int .i64 k, w', by go_simp, rfl, Below.refl _ _⟩
              refine AllOps.cons 7 rfl ?_ ?_
              · intro T w' hb hl hd
                have h0 : T.getD 121 undef = .int .i64 k := hd 5 121 (by kernel_rfl)
                have hwr : IntKind.i64.wrap ((k : Int) + 1) = (k : Int) + 1 := by rw [IntKind.wrap_i64]; omega
                exact Or.inl ⟨.int .i64 ((k : Int) + 1), w', by go_simp, rfl, Below.refl _ _⟩
              refine AllOps.cons 8 rfl ?_ ?_
              · intro T w' hb hl hd
                have h0 : T.getD 119 undef = .slice (some ⟨gb, ob, none⟩) bn m9 := hd 3 119 (by kernel_rfl)
                have h1 : T.getD 120 undef = .int .i64 k := hd 4 120 (by kernel_rfl)
                have h2 : T.getD 122 undef = .int .i64 ((k : Int) + 1) := hd 6 122 (by kernel_rfl)
                have hsl := HSL.out w'
                exact Or.inl ⟨.slice (some ⟨gb, ob + k * 7, none⟩) 1 (m9 - k), w', by go_simp, rfl, Below.refl _ _⟩
              refine AllOps.cons 9 rfl ?_ ?_
              · intro T w' hb hl hd
                have h0 : T.getD 117 undef = .slice (some ⟨g2, 0, none⟩) tn m1 := hd 1 117 (by kernel_rfl)
                have h1 : T.getD 123 undef = .slice (some ⟨gb, ob + k * 7, none⟩) 1 (m9 - k) := hd 7 123 (by kernel_rfl)
                refine Or.inr ⟨24, #[.slice (some ⟨g2, 0, none⟩) tn m1, .slice (some ⟨gb, ob + k * 7, none⟩) 1 (m9 - k)], by go_simp, ?_⟩
                refine (KM.out w' hb).mono ?_
                rintro e w'' ⟨G2, rfl, hT, hbb⟩
                exact ⟨_, rfl, ⟨G2, rfl, hT⟩, hbb⟩
              refine AllOps.cons 10 rfl ?_ ?_
              · intro T w' hb hl hd
                obtain ⟨G2, h1, h2⟩ := hd 8 124 (by kernel_rfl)
                exact Or.inl ⟨T.getD 124 undef, w', by go_simp, ⟨G2, h1, h2⟩, Below.refl _ _⟩
              refine AllOps.cons 11 rfl ?_ ?_
              · intro T w' hb hl hd
                obtain ⟨G2, h1, h2⟩ := hd 9 115 (by kernel_rfl)
                have h1b : T[115]?.getD undef = .tuple #[.slice (some ⟨G2, 0, none⟩) tn tn, .int .i64 0] := by rw [← h1]; simp
                exact Or.inl ⟨.slice (some ⟨G2, 0, none⟩) tn tn, w', by go_simp, ⟨G2, rfl, h2⟩, Below.refl _ _⟩
              refine AllOps.cons 12 rfl ?_ ?_
              · intro T w' hb hl hd
                obtain ⟨G2, h1, h2⟩ := hd 9 115 (by kernel_rfl)
                have h1b : T[115]?.getD undef = .tuple #[.slice (some ⟨G2, 0, none⟩) tn tn, .int .i64 0] := by rw [← h1]; simp
                exact Or.inl ⟨.int .i64 0, w', by go_simp, rfl, Below.refl _ _⟩
              refine AllOps.cons 13 rfl ?_ ?_
              · intro T w' hb hl hd
                obtain ⟨G2, h1, h2⟩ := hd 10 125 (by kernel_rfl)
                exact Or.inl ⟨T.getD 125 undef, w', by go_simp, ⟨G2, h1, h2⟩, Below.refl _ _⟩
              refine AllOps.cons 14 rfl ?_ ?_
              · intro T w' hb hl hd
                have h0 : T.getD 126 undef = .int .i64 0 := hd 11 126 (by kernel_rfl)
                exact Or.inl ⟨.int .i64 0, w', by go_simp, rfl, Below.refl _ _⟩
              exact trivial
            case hfin =>
              intro T w' hb hs hl hd
              obtain ⟨G2, e1, hT⟩ := hd 12 18 (by kernel_rfl)
              have e2 : T.getD 19 undef = .int .i64 0 := hd 13 19 (by kernel_rfl)
              rw [lit_then [true, true, true, true, true, true, true, true, true, true, true, true, true, true, true, true, true, true, false, false, true, true, true, true, true, true, true, true, true, true, true, true, true, true, true, true, true, true, true, true, true, true, true, true, true, true, true, true, true, true, true, true, true, true, true, true, true, true, true, true, true, true, true, true, true, true, true, true, true, true, true, true, true, true, true, true, true, true, true, true, true, true, true, true, true, true, true, true, true, true, true, true, true, true, true, true, true, true, true, true, true, true, true, true, true, true, true, true, true, true, true, true, true, true, true, false, false, false, false, false, false, false, false, false, false, false, false, true, true, true, true, true, true, true, true, true, true, true, true, true, true, true, true, true, true, true, true, true, true, true, true, true, true, true, true, true, true, true, true, true, true, true, true, true, true, true, true, true, true, true, true, true, true, true, true, true, true, true, true, true, true, true, true, true, true, true, true, true, true, true, true, true, true, true, true, true, true, true, true, true, true, true, true, true] (by kernel_rfl) hs hl]
              obtain ⟨us, hus⟩ : ∃ us : Nat → Value, (fun d => T.getD d undef) = us := ⟨_, rfl⟩
              rw [hus]
              have f1 : us 18 = .slice (some ⟨G2, 0, none⟩) tn tn := by rw [← hus]; exact e1
              have f2 : us 19 = .int .i64 0 := by rw [← hus]; exact e2
              apply_assumption
              simp only [fillL]
              go_meet
              exact ⟨_, rfl, G2, f1, f2, hT, hb⟩
          case rest =>
            obtain ⟨w8, rfl, G2, rfl, rfl, hTM, hb8⟩ := hcut
            have HB8 := hid (below_from HB7.out hb8)
            have HTM := hid hTM
            clear d0 d1 d2 d3 z0 z1 z2 z3 hb8 hTM
            obtain ⟨d0, d1, d2, d3⟩ := (HS6.out.later HB8.out).cells
            obtain ⟨z0, z1, z2, z3⟩ := (HP6.out.later HB8.out).cells
            go_wp2_with fail
            go_loopg [20, 21] (48 - C) (fun gk (r p : Value) wz => ∃ (A : Nat) (R : Bool), p = .int .i64 A ∧ C ≤ A ∧ A ≤ 48 ∧ gk = 48 - A ∧ r = .bool R ∧ (∀ t q : Nat, C ≤ t → t < A → q < tn → HitAt (capL l Q rs) b [bk b k] t q → R = true) ∧ Below w8.heap.size w8 wz)
            case atStart => exact ⟨C, false, rfl, by omega, by omega, by omega, rfl, fun t q h1 h2 => by omega, Below.refl _ _⟩
            case round =>
              obtain ⟨A, R, rfl, hA0, hA1, rfl, rfl, hR, hbz⟩ := hrel
              have HR := hid hR
              have HBZ2 := hid hbz
              clear d0 d1 d2 d3 z0 z1 z2 z3 hR hbz
              by_cases hA : A < 48
              · have hA' : (A : Int) < 48 := by omega
                go_wp2_with fail
                go_loopg [20, 22] tn (fun gk (r p : Value) wy => ∃ (q : Nat) (R : Bool), p = .int .i64 q ∧ q ≤ tn ∧ gk = tn - q ∧ r = .bool R ∧ (∀ t q' : Nat, C ≤ t → t < A → q' < tn → HitAt (capL l Q rs) b [bk b k] t q' → R = true) ∧ (∀ q', q' < q → HitAt (capL l Q rs) b [bk b k] A q' → R = true) ∧ Below w8.heap.size w8 wy)
                case atStart => exact ⟨0, R, rfl, by omega, by omega, rfl, HR.out, fun q' h => by omega, HBZ2.out⟩
                case round =>
                  obtain ⟨q, R, rfl, hq, rfl, rfl, hR1, hR2, hby⟩ := hrel
                  have HR1 := hid hR1
                  have HR2 := hid hR2
                  have HBY := hid (below_from HB8.out hby)
                  have HBY8 := hid hby
                  clear hR1 hR2 hby
                  obtain ⟨z0, z1, z2, z3⟩ := (HP6.out.later HBY.out).cells
                  by_cases hqt : q < tn
                  · have hqt' : (q : Int) < tn := by omega
                    have hql : q < (capL l Q rs).length := by rw [capL_len]; have := HH.out.1.len; omega
                    obtain ⟨a1, m1', c1, t1, hr1⟩ := (HT6.out.later HBY.out) q hqt
                    rw [HTK.out] at hr1
                    have K1 := Value_any wr a1 m1' c1 _ (A : Int) hr1
                    rw [value_taken HCL.out hA] at K1
                    obtain ⟨av, hav⟩ : ∃ x, useTo (capL l Q rs) b q A b.length = x := ⟨_, rfl⟩
                    rw [hav] at K1
                    have HK1 := hid K1
                    have HAV := hid hav
                    clear K1 hr1 hav
                    go_wp2_with fail
                    refine HK1.out.mono ?_
                    rintro e w9 ⟨rfl, hb9⟩
                    have HB9 := hid (below_from HBY.out hb9)
                    have HB98 := hid (below_from HBY8.out hb9)
                    clear z0 z1 z2 z3 t1 hb9
                    obtain ⟨z0, z1, z2, z3⟩ := (HP6.out.later HB9.out).cells
                    have hq9 := HQ6.out.later HB9.out
                    obtain ⟨gx, ox, hgx, hcx⟩ := hq9.cells (by omega)
                    injection hgx with hgx
                    injection hgx with hgx hox
                    subst hgx hox
                    have t2 := (hcx q hqt).2.2
                    have hr2 := hq9.caps q hqt
                    rw [runs_bare HBARE.out] at hr2
                    have K2 := Value_any w9 _ _ _ _ (A : Int) hr2
                    rw [value_cap HCL.out.tree hql hA] at K2
                    obtain ⟨bv, hbv⟩ : ∃ x, vals (qu (capL l Q rs) q).runs A = x := ⟨_, rfl⟩
                    rw [hbv] at K2
                    obtain ⟨Y3, hY3⟩ : ∃ Y, qu l3 q = Y := ⟨_, rfl⟩
                    rw [hY3] at K2 t2
                    rw [Nat.zero_add] at t2
                    have HK2 := hid K2
                    have HBV2 := hid hbv
                    clear K2 hr2 hbv hq9 hcx hY3
                    go_wp2_with fail
                    refine HK2.out.mono ?_
                    rintro e wA ⟨rfl, hbA⟩
                    have HBA := hid (below_from HB9.out hbA)
                    have HBA8 := hid (below_from HB98.out hbA)
                    clear z0 z1 z2 z3 t2 hbA
                    obtain ⟨a3, m3, c3, t3, hr3⟩ := (HTM.out.later HBA8.out) q hqt
                    rw [← HM.out] at hr3
                    have K3 := Value_any wA a3 m3 c3 _ (A : Int) hr3
                    have hv1 : valueR (takenTo (capL l Q rs) [bk b k] 1 q) A = (useTo (capL l Q rs) [bk b k] q A 1, 0) := value_taken HONE.out hA
                    rw [hv1] at K3
                    obtain ⟨cv, hcv⟩ : ∃ x, useTo (capL l Q rs) [bk b k] q A 1 = x := ⟨_, rfl⟩
                    rw [hcv] at K3
                    have HK3 := hid K3
                    have HCV := hid hcv
                    clear K3 hr3 hcv hv1
                    go_wp2_with fail
                    refine HK3.out.mono ?_
                    rintro e wB ⟨rfl, hbB⟩
                    have HBB8 := hid (below_from HBA8.out hbB)
                    clear t3 hbB
                    cases R with
                    | true =>
                      go_wp2
                      go_roundg (tn - (q + 1))
                      case measure => omega
                      case rel => exact ⟨q + 1, true, by go_num, by omega, by omega, rfl, fun _ _ _ _ _ _ => rfl, fun _ _ _ => rfl, HBB8.out⟩
                    | false =>
                      by_cases h1 : bv < av
                      · by_cases h2 : 0 < cv
                        · go_wp2
                          go_roundg (tn - (q + 1))
                          case measure => omega
                          case rel => exact ⟨q + 1, true, by go_num, by omega, by omega, rfl, fun _ _ _ _ _ _ => rfl, fun _ _ _ => rfl, HBB8.out⟩
                        · have HNO : Hid (¬ HitAt (capL l Q rs) b [bk b k] A q) := fun h => h2 (by rw [← HCV.out]; exact h.2)
                          go_wp2
                          go_roundg (tn - (q + 1))
                          case measure => omega
                          case rel =>
                            refine ⟨q + 1, false, by go_num, by omega, by omega, by rw [decide_eq_false (show ¬ 0 < cv by omega)], HR1.out, fun q' h3 h4 => ?_, HBB8.out⟩
                            by_cases e : q' = q
                            · subst e; exact absurd h4 HNO.out
                            · exact HR2.out q' (by omega) h4
                      · have HNO : Hid (¬ HitAt (capL l Q rs) b [bk b k] A q) := fun h => h1 (by rw [← HBV2.out, ← HAV.out]; exact h.1)
                        go_wp2
                        go_roundg (tn - (q + 1))
                        case measure => omega
                        case rel =>
                          refine ⟨q + 1, false, by go_num, by omega, by omega, rfl, HR1.out, fun q' h3 h4 => ?_, HBB8.out⟩
                          by_cases e : q' = q
                          · subst e; exact absurd h4 HNO.out
                          · exact HR2.out q' (by omega) h4
                  · obtain rfl : q = tn := by omega
                    go_wp2
                    go_roundg (48 - (A + 1))
                    case measure => omega
                    case rel =>
                      refine ⟨A + 1, R, by go_num, by omega, by omega, by omega, rfl, fun t q' h1 h2 h3 h4 => ?_, HBY8.out⟩
                      by_cases e : t = A
                      · subst e; exact HR2.out q' h3 h4
                      · exact HR1.out t q' h1 (by omega) h3 h4
              · obtain rfl : A = 48 := by omega
                have hRt : R = true := by
                  obtain ⟨⟨h1, h2⟩, h3, h4, h5⟩ := HHIT.out
                  exact HR.out t0 q0 (by omega) h2 (by have := HH.out.1.len; omega) ⟨h4, h5⟩
                subst hRt
                go_wp2
                go_roundg (N - (i + 1))
                case measure => omega
                case rel => exact ⟨i + 1, by go_num, by omega, by omega, below_from HB8.out HBZ2.out⟩
      · obtain rfl : i = N := by omega
        go_wp2_with fail
        refine (cutBegun_any wr).mono ?_
        rintro e w7 ⟨rfl, hb⟩
        have HB7 := hid (below_from (below_from HB6.out HBR.out) hb)
        clear hb
        go_wp2
        go_ret
        exact ⟨rfl, HB7.out⟩
end Go.Proofs.YtecibbokbonmcaeGreat

/- What the second form's bound gives of a slice that came in: its length. -/
namespace Go.Proofs.YtecibbokbonmcaeGreat
open Go.ChangeShapes Go.WideShapes Go.ChangeAt Go.RowKit

theorem bulk_one {H : Type} (d : DataW H) : 1 ≤ Rows.uptoBulk d := by
  cases d with
  | lit l => cases l <;> simp [Rows.uptoBulk]
  | nil => simp [Rows.uptoBulk]
  | ptr d => simp [Rows.uptoBulk]
  | slice elems spare => simp [Rows.uptoBulk]
  | agg parts => simp [Rows.uptoBulk]
  | iface t d => simp [Rows.uptoBulk]
  | map entries => simp [Rows.uptoBulk]
  | held h => simp [Rows.uptoBulk]
theorem bulk_len {H : Type} (l : List (DataW H)) : l.length ≤ Rows.uptoBulkAll l := by
  induction l with
  | nil => simp [Rows.uptoBulkAll]
  | cons x r ih => have := bulk_one x; simp only [Rows.uptoBulkAll, List.length_cons]; omega
/-- a slice's length is below what it is counted for -/
theorem bulk_slice {H : Type} {enc : TypeId × Value → H} {W : World} {base : Nat} {spare : Nat → Bool} {held : Bool} {t e : TypeId} {a : Option Addr} {len cap : Nat} {d : DataW H} {p : List MemPlace}
    (ht : Tryz.prog.underlying t = some (.slice e)) (h : DataW.Trod enc Tryz.prog W base spare held t (.slice a len cap) d p) : len ≤ Rows.uptoBulk d := by
  obtain ⟨fuel, hf⟩ := h
  rcases DataW.trod_slice ht hf with ⟨h1, h2⟩ | ⟨ad, len', cap', elems, rest, n, _, h1, h2, _, _, _, h3, _⟩
  · simp [Value.cells] at h1
    omega
  · simp [Value.cells] at h1
    obtain ⟨_, rfl, _⟩ := h1
    have e1 : d = .slice (elems.map (·.1)) (rest.map (·.1)) := congrArg Prod.fst h2
    have e2 := bulk_len (elems.map (·.1))
    rw [List.length_map, h3] at e2
    rw [e1]
    simp only [Rows.uptoBulk]
    omega
theorem bulk_bound {H : Type} {l : List (DataW H)} (hk : Rows.uptoSmall H l = true) : Rows.uptoBulkAll l ≤ 1048576 := of_decide_eq_true hk
end Go.Proofs.YtecibbokbonmcaeGreat
