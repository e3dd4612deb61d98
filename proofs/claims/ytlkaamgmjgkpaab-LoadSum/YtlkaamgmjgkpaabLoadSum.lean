/- LoadSum: whatever queues, books and number it is handed, the call returns true, and its arguments read afterwards as they read before. -/
import Derived.Test.YtlkaamgmjgkpaabLoadI
import Derived.Test.YtlkaamgmjgkpaabLoadM
import Derived.Test.YtlkaamgmjgkpaabFrameB
import Derived.Deep.DeepCutAuto
namespace Go.Proofs.Ytlkaamgmjgkpaab
open Go.ChangeShapes Go.WideShapes Go.ChangeAt Go.RowKit

theorem wf_range {x : Int} (h : (Lit.int .i64 x).wf = true) : -9223372036854775808 ≤ x ∧ x ≤ 9223372036854775807 := by
  simp [Lit.wf, IntKind.min, IntKind.max, IntKind.signed, IntKind.bits] at h
  exact h

set_option maxRecDepth 100000 in
set_option maxHeartbeats 4000000 in
theorem LoadSum_walk (w : World) (a : Option Addr) (n cap : Nat) (l : QL) (hl : QsIn w a n cap l) (ba : Option Addr) (bn bc : Nat) (b : BL) (hb : BksIn w ba bn bc b) (i : Int) (h0 : -9223372036854775808 ≤ i) (h1 : i ≤ 9223372036854775807) :
    Calls Try.prog 7 #[.slice a n cap, .slice ba bn bc, .int .i64 i] w fun e w' => e = .returned (.bool true) ∧ Below w.heap.size w w' := by
  have HK := hid (Of_any w a n cap l hl ba bn bc b hb)
  have hle := hl.le
  have hcb := hl.capb
  have hble := hb.le
  have hbcb := hb.capb
  by_cases he : chkL l b = 0
  · have HCL := hid (clean_of he)
    have hpos : 0 < n := by have := (right_of HCL.out.tree).pos; have := hl.len; omega
    have h5 : n ≤ 5 := by have := (right_of HCL.out.tree).five; have := hl.len; omega
    have h12 : bn ≤ 12 := by have := HCL.out.few; have := hb.len; omega
    rw [he] at HK
    have HL := hid hl
    have HBK := hid hb
    have HBN := hid hb.len
    have HN := hid hl.len
    have hbn1 : (bn : Int) ≤ 12 := by omega
    clear he hl hb
    go_enter Try.func7, Try.ntmps7
    go_wp2_with fail
    refine HK.out.mono ?_
    rintro e w1 ⟨a1, m1, k1, rfl, ht, _, hb⟩
    obtain ⟨G0, rfl, rfl, rfl, htk⟩ := ht rfl
    have HT0 := hid htk
    have HB1 := hid hb
    clear ht htk hb
    go_wp2_with fail
    have K := choose_any i (bn + 1) w1 h0 h1 (by omega) (by omega)
    rw [show ((bn + 1 : Nat) : Int) = (bn : Int) + 1 from by omega] at K
    refine K.mono ?_
    clear K
    rintro e w2 ⟨k, hk, rfl, hw2⟩
    rw [hw2]
    clear hw2
    have hk0 : (0 : Int) ≤ k := by omega
    have hk1 : (k : Int) ≤ bc := by omega
    have hk2 : (k : Int) ≤ bn := by omega
    have hslice1 : ∃ A1, BksIn w A1 k bc (b.take k) ∧ ∀ W : World, (Instr.slice 36 (.slice ba bn bc) none (some (.int .i64 k)) none).run Try.prog W = .ok (.slice A1 k bc) W := by
      refine ⟨if bc = 0 then ba else ba.map (·.add (0 * 7)), ?_, fun W => ?_⟩
      · by_cases hb0 : 0 < bn
        · obtain ⟨bb, bo, rfl, _⟩ := HBK.out.cells hb0
          have := HBK.out.take (k := k) (by omega)
          by_cases e : bc = 0
          · rw [if_pos e]; exact this
          · rw [if_neg e]; simpa [Addr.add] using this
        · have hk' : k = 0 := by omega
          subst hk'
          exact bksIn_nil hbcb
      · rw [run_slice_h W 36 ba bn bc (by kernel_rfl) .i64 k hk0 hk1]
        have hs : (sizeOf (Try.prog.elem 36)).run Try.prog W = .ok 7 W := by kernel_rfl
        rw [hs]
        simp [Result.andThen, sliced]
    have hslice2 : ∃ A2 c2, BksIn w A2 (bn - k) c2 (b.drop k) ∧ ∀ W : World, (Instr.slice 36 (.slice ba bn bc) (some (.int .i64 k)) none none).run Try.prog W = .ok (.slice A2 (bn - k) c2) W := by
      refine ⟨if bc = k then ba else ba.map (·.add (k * 7)), bc - k, ?_, fun W => ?_⟩
      · by_cases hb0 : 0 < bn
        · obtain ⟨bb, bo, rfl, _⟩ := HBK.out.cells hb0
          have := HBK.out.drop (k := k) (by omega)
          by_cases e : bc = k
          · have h1 : bn - k = 0 := by omega
            have h2 : b.drop k = [] := by rw [List.drop_eq_nil_iff]; have := HBN.out; omega
            rw [h1, h2]
            exact bksIn_nil (by omega)
          · rw [if_neg e]
            show BksIn w (some ((⟨bb, bo, none⟩ : Addr).add (k * 7))) _ _ _
            rw [addr_add]
            exact this
        · have h1 : bn - k = 0 := by omega
          have h2 : b.drop k = [] := by rw [List.drop_eq_nil_iff]; have := HBN.out; omega
          rw [h1, h2]
          exact bksIn_nil (by omega)
      · rw [run_slice_l W 36 ba bn bc (by kernel_rfl) .i64 k hk0 hk2]
        have hs : (sizeOf (Try.prog.elem 36)).run Try.prog W = .ok 7 W := by kernel_rfl
        rw [hs]
        simp [Result.andThen, sliced]
    obtain ⟨A1, hB1, hs1⟩ := hslice1
    obtain ⟨A2, c2, hB2, hs2⟩ := hslice2
    have HS1 := hid hB1
    have HS2 := hid hB2
    clear hB1 hB2
    have hsum := fun q => taken_sum HCL.out k (by have := HBN.out; omega) q
    have HSM := hid fun q => (hsum q).1
    have C1 := hid (chkL_clean (hsum 0).2.1)
    have C2 := hid (chkL_clean (hsum 0).2.2)
    clear hsum
    have K3 := Of_any w1 a n cap l (HL.out.later HB1.out) A1 k bc (b.take k) (HS1.out.later HB1.out)
    rw [C1.out] at K3
    have HK3 := hid K3
    clear K3
    go_wp2_with fail
    refine HK3.out.mono ?_
    rintro e w3 ⟨a3, m3, k3, rfl, ht, _, hb⟩
    obtain ⟨G1, rfl, rfl, rfl, htk⟩ := ht rfl
    have HT1 := hid htk
    have HT0' := hid (HT0.out.later hb)
    have HB3 := hid (below_from HB1.out hb)
    clear ht htk hb HT0 HK3
    have K4 := Of_any w3 a n cap l (HL.out.later HB3.out) A2 (bn - k) c2 (b.drop k) (HS2.out.later HB3.out)
    rw [C2.out] at K4
    have HK4 := hid K4
    clear K4
    go_wp2_with fail
    refine HK4.out.mono ?_
    rintro e w4 ⟨a4, m4, k4, rfl, ht, _, hb⟩
    obtain ⟨G2, rfl, rfl, rfl, htk⟩ := ht rfl
    have HT2 := hid htk
    have HT1' := hid (HT1.out.later hb)
    have HT0'' := hid (HT0'.out.later hb)
    have HB4 := hid (below_from HB3.out hb)
    clear ht htk hb HT1 HT0' HK4 hs1 hs2
    obtain ⟨U0, hU0⟩ : ∃ U0, takenTo l b b.length = U0 := ⟨_, rfl⟩
    obtain ⟨U1, hU1⟩ : ∃ U1, takenTo l (b.take k) (b.take k).length = U1 := ⟨_, rfl⟩
    obtain ⟨U2, hU2⟩ : ∃ U2, takenTo l (b.drop k) (b.drop k).length = U2 := ⟨_, rfl⟩
    rw [hU0] at HT0'' HSM
    rw [hU1] at HT1' HSM
    rw [hU2] at HT2 HSM
    clear hU0 hU1 hU2
    go_wp2_with fail
    go_loopw [14] (fun p wr => ∃ j : Nat, p = .int .i64 j ∧ j ≤ n ∧ Below w4.heap.size w4 wr) (fun p _ => n - (intOf p).toNat)
    case atStart => exact ⟨0, rfl, by omega, Below.refl _ _⟩
    case round =>
      obtain ⟨j, rfl, hj, hbel⟩ := hrel
      have HBL := hid hbel
      clear hbel
      by_cases hlt : j < n
      · have hlt' : (j : Int) < n := by omega
        obtain ⟨x0, m0, k0, e0, r0⟩ := HT0''.out.later HBL.out j hlt
        obtain ⟨x1, m1, k1, e1, r1⟩ := HT1'.out.later HBL.out j hlt
        obtain ⟨x2, m2, k2, e2, r2⟩ := HT2.out.later HBL.out j hlt
        have E1 := hid e1
        have E2 := hid e2
        have E0 := hid e0
        have KP := hid fun Y (hY : Below wr.heap.size wr Y) => Plus_any Y x1 x2 m1 m2 k1 k2 (U1 j) (U2 j) (r1.later hY) (r2.later hY)
        rw [HSM.out j] at KP
        obtain ⟨U, hU⟩ : ∃ U, U0 j = U := ⟨_, rfl⟩
        rw [hU] at KP r0
        have R0 := hid r0
        clear e0 e1 e2 r1 r2 r0 hU
        go_wp2_with fail
        go_cut [15, 16] (fun p q wx => ∃ a9 n9 c9, p = .slice a9 n9 c9 ∧ q = .int .i64 0 ∧ RunsIn wx a9 n9 c9 U ∧ Below wr.heap.size wr wx)
        case first =>
          refine wp_region_des ((Try.f7.body.bind fun c => regOps c 12).getD #[]) (by kernel_rfl) [isV (.slice (some ⟨G1, 0, none⟩) n n), isV (.int .i64 j), isV (.pointer (some ⟨G1, j, none⟩)), isV (.slice x1 m1 k1), isV (.slice (some ⟨G2, 0, none⟩) n n), isV (.int .i64 j), isV (.pointer (some ⟨G2, j, none⟩)), isV (.slice x2 m2 k2), ⟨fun v X => ∃ a n cap, v = .tuple #[.slice a n cap, .int .i64 0] ∧ RunsIn X a n cap U, fun _ X Y ⟨a, n, cap, h1, h2⟩ hb => ⟨a, n, cap, h1, h2.later hb⟩⟩, ⟨fun v X => ∃ a n cap, v = .tuple #[.slice a n cap, .int .i64 0] ∧ RunsIn X a n cap U, fun _ X Y ⟨a, n, cap, h1, h2⟩ hb => ⟨a, n, cap, h1, h2.later hb⟩⟩, ⟨fun v X => ∃ a n cap, v = .slice a n cap ∧ RunsIn X a n cap U, fun _ X Y ⟨a, n, cap, h1, h2⟩ hb => ⟨a, n, cap, h1, h2.later hb⟩⟩, isV (.int .i64 0), ⟨fun v X => ∃ a n cap, v = .slice a n cap ∧ RunsIn X a n cap U, fun _ X Y ⟨a, n, cap, h1, h2⟩ hb => ⟨a, n, cap, h1, h2.later hb⟩⟩, isV (.int .i64 0)] [] (by kernel_rfl) (by kernel_rfl) (by kernel_rfl) ?hg ?hstep ?hfin
          case hg =>
            intro g hg v w h
            cases hg
          case hstep =>
            refine AllOps.cons 1 rfl ?_ ?_
            · intro T w' hb hl hd
              have h0 : T.getD 10 undef = .slice (some ⟨G1, 0, none⟩) n n := hl 10 (by kernel_rfl)
              exact Or.inl ⟨.slice (some ⟨G1, 0, none⟩) n n, w', by go_simp, rfl, Below.refl _ _⟩
            refine AllOps.cons 2 rfl ?_ ?_
            · intro T w' hb hl hd
              have h0 : T.getD 14 undef = .int .i64 j := hl 14 (by kernel_rfl)
              exact Or.inl ⟨.int .i64 j, w', by go_simp, rfl, Below.refl _ _⟩
            refine AllOps.cons 3 rfl ?_ ?_
            · intro T w' hb hl hd
              have h0 : T.getD 81 undef = .slice (some ⟨G1, 0, none⟩) n n := hd 0 81 (by kernel_rfl)
              have h1 : T.getD 82 undef = .int .i64 j := hd 1 82 (by kernel_rfl)
              exact Or.inl ⟨.pointer (some ⟨G1, j, none⟩), w', by go_simp, rfl, Below.refl _ _⟩
            refine AllOps.cons 4 rfl ?_ ?_
            · intro T w' hb hl hd
              have h0 : T.getD 83 undef = .pointer (some ⟨G1, j, none⟩) := hd 2 83 (by kernel_rfl)
              have e1 := cell_later hb E1.out
              exact Or.inl ⟨.slice x1 m1 k1, w', by go_simp, rfl, Below.refl _ _⟩
            refine AllOps.cons 5 rfl ?_ ?_
            · intro T w' hb hl hd
              have h0 : T.getD 12 undef = .slice (some ⟨G2, 0, none⟩) n n := hl 12 (by kernel_rfl)
              exact Or.inl ⟨.slice (some ⟨G2, 0, none⟩) n n, w', by go_simp, rfl, Below.refl _ _⟩
            refine AllOps.cons 6 rfl ?_ ?_
            · intro T w' hb hl hd
              have h0 : T.getD 14 undef = .int .i64 j := hl 14 (by kernel_rfl)
              exact Or.inl ⟨.int .i64 j, w', by go_simp, rfl, Below.refl _ _⟩
            refine AllOps.cons 7 rfl ?_ ?_
            · intro T w' hb hl hd
              have h0 : T.getD 85 undef = .slice (some ⟨G2, 0, none⟩) n n := hd 4 85 (by kernel_rfl)
              have h1 : T.getD 86 undef = .int .i64 j := hd 5 86 (by kernel_rfl)
              exact Or.inl ⟨.pointer (some ⟨G2, j, none⟩), w', by go_simp, rfl, Below.refl _ _⟩
            refine AllOps.cons 8 rfl ?_ ?_
            · intro T w' hb hl hd
              have h0 : T.getD 87 undef = .pointer (some ⟨G2, j, none⟩) := hd 6 87 (by kernel_rfl)
              have e2 := cell_later hb E2.out
              exact Or.inl ⟨.slice x2 m2 k2, w', by go_simp, rfl, Below.refl _ _⟩
            refine AllOps.cons 9 rfl ?_ ?_
            · intro T w' hb hl hd
              have h0 : T.getD 84 undef = .slice x1 m1 k1 := hd 3 84 (by kernel_rfl)
              have h1 : T.getD 88 undef = .slice x2 m2 k2 := hd 7 88 (by kernel_rfl)
              refine Or.inr ⟨25, #[.slice x1 m1 k1, .slice x2 m2 k2], by go_simp, ?_⟩
              refine (KP.out w' hb).mono ?_
              rintro e w'' ⟨a9, n9, c9, rfl, hr, hbb⟩
              exact ⟨_, rfl, ⟨a9, n9, c9, rfl, hr⟩, hbb⟩
            refine AllOps.cons 10 rfl ?_ ?_
            · intro T w' hb hl hd
              obtain ⟨a9, n9, c9, h0, hr⟩ := hd 8 89 (by kernel_rfl)
              exact Or.inl ⟨.tuple #[.slice a9 n9 c9, .int .i64 0], w', by go_simp, ⟨a9, n9, c9, rfl, hr⟩, Below.refl _ _⟩
            refine AllOps.cons 11 rfl ?_ ?_
            · intro T w' hb hl hd
              obtain ⟨a9, n9, c9, h0, hr⟩ := hd 9 80 (by kernel_rfl)
              exact Or.inl ⟨.slice a9 n9 c9, w', by go_simp, ⟨a9, n9, c9, rfl, hr⟩, Below.refl _ _⟩
            refine AllOps.cons 12 rfl ?_ ?_
            · intro T w' hb hl hd
              obtain ⟨a9, n9, c9, h0, hr⟩ := hd 9 80 (by kernel_rfl)
              exact Or.inl ⟨.int .i64 0, w', by go_simp, rfl, Below.refl _ _⟩
            refine AllOps.cons 13 rfl ?_ ?_
            · intro T w' hb hl hd
              obtain ⟨a9, n9, c9, h0, hr⟩ := hd 10 90 (by kernel_rfl)
              exact Or.inl ⟨.slice a9 n9 c9, w', by go_simp, ⟨a9, n9, c9, rfl, hr⟩, Below.refl _ _⟩
            refine AllOps.cons 14 rfl ?_ ?_
            · intro T w' hb hl hd
              have h0 : T.getD 91 undef = .int .i64 0 := hd 11 91 (by kernel_rfl)
              exact Or.inl ⟨.int .i64 0, w', by go_simp, rfl, Below.refl _ _⟩
            exact trivial
          case hfin =>
            intro T w' hb hs hl hd
            obtain ⟨a9, n9, c9, e15, hr⟩ := hd 12 15 (by kernel_rfl)
            have e16 : T.getD 16 undef = .int .i64 0 := hd 13 16 (by kernel_rfl)
            rw [lit_then [true, true, true, true, true, true, true, true, true, true, true, true, true, true, true, false, false, true, true, true, true, true, true, true, true, true, true, true, true, true, true, true, true, true, true, true, true, true, true, true, true, true, true, true, true, true, true, true, true, true, true, true, true, true, true, true, true, true, true, true, true, true, true, true, true, true, true, true, true, true, true, true, true, true, true, true, true, true, true, true, false, false, false, false, false, false, false, false, false, false, false, false, true, true, true, true, true, true, true, true, true, true, true, true] (by kernel_rfl) hs hl]
            obtain ⟨us, hus⟩ : ∃ us : Nat → Value, (fun d => T.getD d undef) = us := ⟨_, rfl⟩
            rw [hus]
            have f15 : us 15 = .slice a9 n9 c9 := by rw [← hus]; exact e15
            have f16 : us 16 = .int .i64 0 := by rw [← hus]; exact e16
            apply_assumption
            simp only [fillL]
            go_meet
            exact ⟨a9, n9, c9, f15, f16, hr, hb⟩
        case rest =>
          obtain ⟨a9, n9, c9, rfl, rfl, hr, hb⟩ := hcut
          have HR9 := hid hr
          have R0' := hid (R0.out.later hb)
          obtain rfl : m0 = n9 := R0.out.len.trans hr.len.symm
          have e0 := cell_later hb E0.out
          have HB9 := hid (below_from HBL.out hb)
          clear hr hb
          go_wp2_with fail
          refine (SameRuns_same _ a9 x0 m0 c9 k0 U HR9.out R0'.out).mono ?_
          rintro e w5 ⟨rfl, hd⟩
          have HB5 := hid (below_from HB9.out (below_of_drawn hd))
          clear hd e0
          go_wp2
          go_roundw
          case rel => exact ⟨j + 1, by go_num, by omega, HB5.out⟩
          case measure => simp [intOf]; omega
      · obtain rfl : j = n := by omega
        go_wp2_with fail
        refine (loadBegun_any wr).mono ?_
        rintro e w5 ⟨rfl, hb⟩
        have HB5 := hid (below_from (below_from HB4.out HBL.out) hb)
        clear hb
        go_wp2
        go_ret
        exact ⟨rfl, HB5.out⟩
  · obtain ⟨er, her⟩ : ∃ er, chkL l b = er := ⟨_, rfl⟩
    rw [her] at HK he
    have hne : (er != 0) = true := by simp [he]
    clear he her hl hb
    go_enter Try.func7, Try.ntmps7
    go_wp2_with fail
    refine HK.out.mono ?_
    rintro e w1 ⟨a1, m1, k1, rfl, _, _, hb⟩
    have HB1 := hid hb
    clear hb
    go_wp2_with fail
    refine (loadBegun_any w1).mono ?_
    rintro e w2 ⟨rfl, hb⟩
    have HB2 := hid (below_from HB1.out hb)
    clear hb
    go_wp2
    go_ret
    exact ⟨rfl, HB2.out⟩

set_option maxRecDepth 100000 in
theorem LoadSum_lifted (os : Os) (started : os.Started) (H : Type) (enc : TypeId × Value → H) :
    ReturnsInHanded {} Try.checked os 7 .any (Rows.loadSumSpec.pre6 enc Try.prog Try.f7 Rows.loadSumRow.domain false) (Rows.loadSumSpec.post enc Try.prog Try.f7 false true false false) := by
  refine returnsInHanded_of_change (C := Try.checked) own started (by kernel_rfl) Try.func7
    (ChangeSpec.witness6 (enc := enc) (C := Try.checked) false ⟨#[], #[.slice none 0 0, .slice none 0 0, .int .i64 0], []⟩ 8 (by kernel_rfl) (by kernel_rfl) (by kernel_rfl) (by kernel_rfl)) ?_
  intro W base args ds gs before hval0 hW hcnd _
  have hval : ∀ (j : Nat) t v, Try.f7.params[j]? = some t → args[j]? = some v → Value.okWide Try.prog W .any base t v := hval0
  have hW' := hW
  obtain ⟨p, q, hA0, hV, rfl, hfz, hnd⟩ := hW
  have hA : DataW.TrodAll enc Try.prog W 0 (fun _ => true) true Try.f7.params.toList args.toList ds p := hA0
  rw [Try.params7] at hA hval
  obtain ⟨v0, vs0, d0, ds0, p0, q0, hargs, rfl, rfl, h0, r0⟩ := trodAll_cons hA
  obtain ⟨v1, vs1, d1, ds1, p1, q1, rfl, rfl, rfl, h1, r1⟩ := trodAll_cons r0
  obtain ⟨v2, vs2, d2, ds2, p2, q2, rfl, rfl, rfl, h2, r2⟩ := trodAll_cons r1
  obtain ⟨rfl, rfl, rfl⟩ := trodAll_nil r2
  obtain rfl : args = #[v0, v1, v2] := by cases args; simp_all
  obtain ⟨rfl, rfl⟩ := trodVars_none hV
  have k0 := h0
  have lt0 : ∀ x ∈ p0, x.block < W.heap.size := by obtain ⟨m, hm⟩ := k0; exact DataW.trod_lt m _ _ _ hm
  obtain ⟨a0, len0, cap0, rfl⟩ := okWide_slice Try.underlying22 (hval 0 22 v0 rfl rfl)
  obtain ⟨l0, w0⟩ : ∃ l, QsIn W a0 len0 cap0 l := by
    obtain ⟨fuel, hf⟩ := h0
    exact qs_open (by simp [Value.cells]) hf
  have k1 := h1
  have lt1 : ∀ x ∈ p1, x.block < W.heap.size := by obtain ⟨m, hm⟩ := k1; exact DataW.trod_lt m _ _ _ hm
  obtain ⟨a1, len1, cap1, rfl⟩ := okWide_slice Try.underlying36 (hval 1 36 v1 rfl rfl)
  obtain ⟨l1, w1⟩ : ∃ l, BksIn W a1 len1 cap1 l := by
    obtain ⟨fuel, hf⟩ := h1
    exact bks_open (by simp [Value.cells]) hf
  obtain ⟨a2, rfl, rfl, rfl, w2⟩ := open_int Try.underlying3 (hval 2 3 v2 rfl rfl) h2
  have b2 : -9223372036854775808 ≤ a2 ∧ a2 ≤ 9223372036854775807 := wf_range w2
  clear hA0 hval0
  refine (LoadSum_walk W a0 len0 cap0 l0 w0 a1 len1 cap1 l1 w1 a2 b2.1 b2.2).mono fun e W' ⟨he, bel⟩ => ?_
  subst he
  exact ⟨_, rfl, _, _, _, [], _, [], hW', trodAll_mk1 (shut_bool Try.underlying4 _), (trodAll_cons_mk (Below.trod laidOut (by kernel_rfl) (of_decide_eq_true (by kernel_rfl)) k0 bel lt0) (trodAll_cons_mk (Below.trod laidOut (by kernel_rfl) (of_decide_eq_true (by kernel_rfl)) k1 bel lt1) (trodAll_cons_mk (shut_int Try.underlying3 w2) trodAll_mk0))), rfl, bel.frame _, fun h => by cases h⟩

theorem LoadSum_holds : Rows.LoadSumSaid :=
  OpenClaim.holds_of_wide 7 Try.f7 rfl rfl rfl rfl rfl rfl rfl ⟨rfl, rfl, rfl, rfl, rfl⟩ rfl rfl rfl rfl rfl (by kernel_rfl) Try.func7 (by kernel_rfl)
    (of_decide_eq_true (by kernel_rfl)) (by unfold Func.isWrapper; first | (rw [if_pos (by decide +kernel)]; kernel_rfl) | (rw [if_neg (by decide +kernel)]; exact ⟨rfl, rfl⟩))
    (fun os started H enc _ => LoadSum_lifted os started H enc)
#print axioms LoadSum_holds
end Go.Proofs.Ytlkaamgmjgkpaab
