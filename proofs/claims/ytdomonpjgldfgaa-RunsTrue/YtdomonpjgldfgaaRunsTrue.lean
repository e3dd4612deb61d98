/- RunsTrue: whatever runs and numbers it is handed, the call returns true, and its arguments read afterwards as they read before. -/
import Derived.Test.YtdomonpjgldfgaaRunsH
import Derived.Test.YtdomonpjgldfgaaRunsM
import Derived.Test.YtdomonpjgldfgaaFrame
namespace Go.Proofs.Ytdomonpjgldfgaa
open Go.ChangeShapes Go.WideShapes Go.ChangeAt Go.RowKit

theorem choose_any (c : Int) (n : Nat) (w : World) (h0 : -9223372036854775808 ≤ c) (h1 : c ≤ 9223372036854775807) (hn : 0 < n) (hn2 : n ≤ 48) :
    Calls Try.prog 25 #[.int .i64 c, .int .i64 n] w fun e w' => ∃ k : Nat, k < n ∧ e = .returned (.int .i64 k) ∧ w' = w := by
  have hn' : (0 : Int) < n := by omega
  have hne : ¬ (n : Int) = 0 := by omega
  by_cases hc : c < 0
  · have e1 : -((c + 1).tmod n) = (((-(c + 1)) % n).toNat : Int) := by
      rw [← Int.neg_tmod, Int.tmod_eq_emod_of_nonneg (by omega), Int.toNat_of_nonneg (Int.emod_nonneg _ hne)]
    have e2 : ((-(c + 1)) % n).toNat < n := by have := Int.emod_lt_of_pos (-(c + 1)) hn'; have := Int.emod_nonneg (-(c + 1)) hne; omega
    have E1 := hid e1
    clear e1
    go_enter Try.func25, Try.ntmps25
    go_wp2
    go_ret
    exact ⟨_, e2, ret_int E1.out, rfl⟩
  · have hc' : 0 ≤ c := by omega
    have e2 : (c % n).toNat < n := by have := Int.emod_lt_of_pos c hn'; have := Int.emod_nonneg c hne; omega
    have E1 : Hid (c % n = ((c % n).toNat : Int)) := (Int.toNat_of_nonneg (Int.emod_nonneg _ hne)).symm
    go_enter Try.func25, Try.ntmps25
    go_wp2
    go_ret
    exact ⟨_, e2, ret_int E1.out, rfl⟩

/-- some number up to a time is the low one -/
def seen (l : RunL) (A : Nat) (low : Int) : Nat → Bool
  | 0 => false
  | k + 1 => seen l A low k || (vals l (A + k) == low)
theorem seen_of {l : RunL} {A : Nat} {low : Int} {t : Nat} : ∀ k, A ≤ t → t < A + k → low = vals l t → seen l A low k = true
  | 0, _, _, _ => by omega
  | k + 1, h1, h2, h3 => by
    by_cases e : t = A + k
    · subst e; simp [seen, h3]
    · rw [seen, seen_of k h1 (by omega) h3]; rfl

set_option maxRecDepth 100000 in
set_option maxHeartbeats 4000000 in
theorem RunsTrue_walk (w : World) (a : Option Addr) (n cap : Nat) (l : RunL) (a' : Option Addr) (n' cap' : Nat) (l' : RunL) (t lo hi : Int) (hL : RunsIn w a n cap l) (hR : RunsIn w a' n' cap' l') (ht0 : -9223372036854775808 ≤ t) (ht1 : t ≤ 9223372036854775807) :
    Calls Try.prog 6 #[.slice a n cap, .slice a' n' cap', .int .i64 t, .int .i64 lo, .int .i64 hi] w fun e w' => e = .returned (.bool true) ∧ Below w.heap.size w w' := by
  obtain ⟨⟨x, e1⟩, hv1⟩ : ∃ v, joinR (fun x y => x + y) l l' = v := ⟨_, rfl⟩
  obtain ⟨⟨y, e2⟩, hv2⟩ : ∃ v, joinR (fun x y => x - y) x l' = v := ⟨_, rfl⟩
  obtain ⟨⟨z, e3⟩, hv3⟩ : ∃ v, joinR (fun x y => min x y) l l' = v := ⟨_, rfl⟩
  obtain ⟨⟨u, e4⟩, hv4⟩ : ∃ v, joinR (fun x y => min x y) l' l = v := ⟨_, rfl⟩
  have V1 := hid hv1
  have V2 := hid hv2
  have V3 := hid hv3
  have V4 := hid hv4
  clear hv1 hv2 hv3 hv4
  go_enter Try.func6, Try.ntmps6
  go_wp2_with fail
  have K1 := Plus_any w a a' n n' cap cap' l l' hL hR
  rw [V1.out] at K1
  refine K1.mono ?_
  clear K1
  rintro e w1 ⟨a1, n1, cap1, rfl, R, B⟩
  have R1_1 := hid R
  have B1 := hid B
  clear R B
  go_wp2_with fail
  have K1 := Minus_any w1 a1 a' n1 n' cap1 cap' x l' R1_1.out (hR.later B1.out)
  rw [V2.out] at K1
  refine K1.mono ?_
  clear K1
  rintro e w2 ⟨a2, n2, cap2, rfl, R, B⟩
  have R2_2 := hid R
  have R1_2 := hid (R1_1.out.later B)
  have B2 := hid (below_from B1.out B)
  clear R B R1_1 B1
  go_wp2_with fail
  have K1 := Lesser_any w2 a a' n n' cap cap' l l' (hL.later B2.out) (hR.later B2.out)
  rw [V3.out] at K1
  refine K1.mono ?_
  clear K1
  rintro e w3 ⟨a3, n3, cap3, rfl, R, B⟩
  have R3_3 := hid R
  have R2_3 := hid (R2_2.out.later B)
  have R1_3 := hid (R1_2.out.later B)
  have B3 := hid (below_from B2.out B)
  clear R B R1_2 R2_2 B2
  go_wp2_with fail
  have K1 := Lesser_any w3 a' a n' n cap' cap l' l (hR.later B3.out) (hL.later B3.out)
  rw [V4.out] at K1
  refine K1.mono ?_
  clear K1
  rintro e w4 ⟨a4, n4, cap4, rfl, R, B⟩
  have R4_4 := hid R
  have R3_4 := hid (R3_3.out.later B)
  have R2_4 := hid (R2_3.out.later B)
  have R1_4 := hid (R1_3.out.later B)
  have B4 := hid (below_from B3.out B)
  clear R B R1_3 R2_3 R3_3 B3
  have fin : ∀ w5, Below w.heap.size w w5 → Calls Try.prog 13 #[] w5 fun e w' => e = .returned (.bool true) ∧ Below w.heap.size w w' := fun w5 hb => (runsBegun_any w5).mono (by
    rintro e w' ⟨rfl, hb2⟩
    exact ⟨rfl, below_from hb hb2⟩)
  have FIN := hid fin
  clear fin
  cases g1 : (e1 != 0) with
  | true =>
    go_wp2_with fail
    refine (FIN.out w4 B4.out).mono ?_
    rintro e w5 ⟨rfl, B⟩
    go_wp2
    go_ret
    exact ⟨rfl, B⟩
  | false =>
  cases g2 : (e2 != 0) with
  | true =>
    go_wp2_with fail
    refine (FIN.out w4 B4.out).mono ?_
    rintro e w5 ⟨rfl, B⟩
    go_wp2
    go_ret
    exact ⟨rfl, B⟩
  | false =>
  cases g3 : (e3 != 0) with
  | true =>
    go_wp2_with fail
    refine (FIN.out w4 B4.out).mono ?_
    rintro e w5 ⟨rfl, B⟩
    go_wp2
    go_ret
    exact ⟨rfl, B⟩
  | false =>
  cases g4 : (e4 != 0) with
  | true =>
    go_wp2_with fail
    refine (FIN.out w4 B4.out).mono ?_
    rintro e w5 ⟨rfl, B⟩
    go_wp2
    go_ret
    exact ⟨rfl, B⟩
  | false =>
  obtain rfl : e1 = 0 := by simpa using g1
  obtain rfl : e2 = 0 := by simpa using g2
  obtain rfl : e3 = 0 := by simpa using g3
  obtain rfl : e4 = 0 := by simpa using g4
  clear g1 g2 g3 g4
  have RY : Hid (RunsIn w4 a2 n2 cap2 l) := by have := R2_4.out; rw [back V1.out V2.out] at this; exact this
  have RU : Hid (RunsIn w4 a4 n4 cap4 z) := by have := R4_4.out; rw [min_both V3.out V4.out] at this; exact this
  clear R2_4 R4_4
  have F1 := hid (joinR_ok V1.out).1
  have F2 := hid (joinR_ok V1.out).2.1
  have FX := hid (joinR_fine V1.out)
  have FZ := hid (joinR_fine V3.out)
  have VX := hid (joinR_val V1.out)
  have VZ := hid (joinR_val V3.out)
  clear V1 V2 V3 V4
  obtain rfl : n = n2 := hL.len.trans RY.out.len.symm
  obtain rfl : n3 = n4 := R3_4.out.len.trans RU.out.len.symm
  go_wp2_with fail
  have K1 : Calls Try.prog 25 #[.int .i64 t, .int .i64 48] w4 _ := choose_any t 48 w4 ht0 ht1 (by omega) (by omega)
  refine K1.mono ?_
  clear K1
  rintro e w5 ⟨k, hk, rfl, rfl⟩
  have hv1 := hid (valueR_fine F1.out k hk)
  have hv2 := hid (valueR_fine F2.out k hk)
  have hv3 := hid (valueR_fine FX.out k hk)
  have hv4 := hid (valueR_fine FZ.out k hk)
  obtain ⟨p, hp⟩ : ∃ p, vals l k = p := ⟨_, rfl⟩
  obtain ⟨q, hq⟩ : ∃ q, vals l' k = q := ⟨_, rfl⟩
  have hr : vals x k = p + q := by rw [VX.out k hk, hp, hq]
  have hs : vals z k = min p q := by rw [VZ.out k hk, hp, hq]
  have hpb := bdd_iff.1 (valAt_bdd F1.out (k : Int) (by omega))
  have hqb := bdd_iff.1 (valAt_bdd F2.out (k : Int) (by omega))
  have p1 : -1048576 ≤ p := by rw [← hp]; exact hpb.1
  have p2 : p ≤ 1048576 := by rw [← hp]; exact hpb.2
  have q1 : -1048576 ≤ q := by rw [← hq]; exact hqb.1
  have q2 : q ≤ 1048576 := by rw [← hq]; exact hqb.2
  have hv1 : Hid (valueR l k = (p, 0)) := by rw [hv1.out, hp]; exact rfl
  have hv2 : Hid (valueR l' k = (q, 0)) := by rw [hv2.out, hq]; exact rfl
  have hv3 : Hid (valueR x k = (p + q, 0)) := by rw [hv3.out, hr]; exact rfl
  have hv4 : Hid (valueR z k = (min p q, 0)) := by rw [hv4.out, hs]; exact rfl
  clear hp hq hr hs hpb hqb VX VZ
  go_wp2_with fail
  have K1 := Value_any w5 a n cap l k (hL.later B4.out)
  rw [hv1.out] at K1
  refine K1.mono ?_
  clear K1
  rintro e w6 ⟨rfl, B⟩
  have B6 := hid (below_from B4.out B)
  have R1_6 := hid (R1_4.out.later B)
  have R3_6 := hid (R3_4.out.later B)
  have RY_6 := hid (RY.out.later B)
  have RU_6 := hid (RU.out.later B)
  clear B B4 R1_4 R3_4 RY RU
  go_wp2_with fail
  have K1 := Value_any w6 a' n' cap' l' k (hR.later B6.out)
  rw [hv2.out] at K1
  refine K1.mono ?_
  clear K1
  rintro e w7 ⟨rfl, B⟩
  have B7 := hid (below_from B6.out B)
  have R1_7 := hid (R1_6.out.later B)
  have R3_7 := hid (R3_6.out.later B)
  have RY_7 := hid (RY_6.out.later B)
  have RU_7 := hid (RU_6.out.later B)
  clear B B6 R1_6 R3_6 RY_6 RU_6
  go_wp2_with fail
  have K1 := Value_any w7 a1 n1 cap1 x k R1_7.out
  rw [hv3.out] at K1
  refine K1.mono ?_
  clear K1
  rintro e w8 ⟨rfl, B⟩
  have B8 := hid (below_from B7.out B)
  have R1_8 := hid (R1_7.out.later B)
  have R3_8 := hid (R3_7.out.later B)
  have RY_8 := hid (RY_7.out.later B)
  have RU_8 := hid (RU_7.out.later B)
  clear B B7 R1_7 R3_7 RY_7 RU_7
  go_wp2_with fail
  have K1 := Value_any w8 a3 n3 cap3 z k R3_8.out
  rw [hv4.out] at K1
  refine K1.mono ?_
  clear K1
  rintro e w9 ⟨rfl, B⟩
  have B9 := hid (below_from B8.out B)
  have R1_9 := hid (R1_8.out.later B)
  have R3_9 := hid (R3_8.out.later B)
  have RY_9 := hid (RY_8.out.later B)
  have RU_9 := hid (RU_8.out.later B)
  clear B B8 R1_8 R3_8 RY_8 RU_8 hv1 hv2 hv3 hv4
  have hps : (p + q != p + q) = false := by simp
  have hqq : (q != q) = false := by simp
  have hpp : (p != p) = false := by simp
  obtain ⟨m, hm⟩ : ∃ m, min p q = m := ⟨_, rfl⟩
  rw [hm]
  have HM : Hid ((q < p ∧ m = q) ∨ (p ≤ q ∧ m = p)) := by rw [← hm]; show (q < p ∧ min p q = q) ∨ (p ≤ q ∧ min p q = p); omega
  clear hm
  rcases HM.out with ⟨hqp, rfl⟩ | ⟨hqp, rfl⟩
  all_goals
    clear HM
    go_wp2_with fail
    refine (SameRuns_same w9 a2 a n cap2 cap l RY_9.out (hL.later B9.out)).mono ?_
    rintro e w10 ⟨rfl, B⟩
    have B10 := hid (below_from B9.out (below_of_drawn B))
    have R1_10 := hid (R1_9.out.later (below_of_drawn B))
    have R3_10 := hid (R3_9.out.later (below_of_drawn B))
    have RU_10 := hid (RU_9.out.later (below_of_drawn B))
    clear B B9 R1_9 R3_9 RY_9 RU_9
    go_wp2_with fail
    refine (SameRuns_same w10 a3 a4 n3 cap3 cap4 z R3_10.out RU_10.out).mono ?_
    rintro e w11 ⟨rfl, B⟩
    have B11 := hid (below_from B10.out (below_of_drawn B))
    have R1_11 := hid (R1_10.out.later (below_of_drawn B))
    have R3_11 := hid (R3_10.out.later (below_of_drawn B))
    clear B B10 R1_10 R3_10 RU_10
    go_wp2_with fail
    have K1 := Check_any w11 a1 n1 cap1 x R1_11.out
    rw [chk_zero FX.out] at K1
    refine K1.mono ?_
    clear K1
    rintro e w12 ⟨rfl, B⟩
    have B12 := hid (below_from B11.out B)
    have R3_12 := hid (R3_11.out.later B)
    clear B B11 R1_11 R3_11
    go_wp2_with fail
    have K1 := Check_any w12 a3 n3 cap3 z R3_12.out
    rw [chk_zero FZ.out] at K1
    refine K1.mono ?_
    clear K1
    rintro e w13 ⟨rfl, B⟩
    have B13 := hid (below_from B12.out B)
    clear B B12 R3_12
    go_wp2_with fail
    obtain ⟨⟨low, e5⟩, hv5⟩ : ∃ v, leastR l lo hi = v := ⟨_, rfl⟩
    have K1 := Least_any w13 a n cap l lo hi (hL.later B13.out)
    rw [hv5] at K1
    have V5 := hid hv5
    clear hv5
    refine K1.mono ?_
    clear K1
    rintro e w14 ⟨rfl, B⟩
    have B14 := hid (below_from B13.out B)
    clear B B13
    cases g5 : (e5 != 0) with
    | true =>
      go_wp2_with fail
      refine (FIN.out w14 B14.out).mono ?_
      rintro e w15 ⟨rfl, B⟩
      go_wp2
      go_ret
      exact ⟨rfl, B⟩
    | false =>
      obtain rfl : e5 = 0 := by simpa using g5
      clear g5
      obtain ⟨A, C, rfl, rfl, hAC, hC, hlow⟩ := leastR_ok V5.out
      have LOW := hid hlow
      clear hlow V5
      go_wp2_with fail
      go_loopw [30, 31] (fun si st wr => ∃ k : Nat, st = .int .i64 ((A + k : Nat) : Int) ∧ A + k ≤ C ∧ si = .bool (seen l A low k) ∧ Below w.heap.size w wr) (fun _ st _ => 48 - (intOf st).toNat)
      case atStart => exact ⟨0, rfl, by omega, rfl, B14.out⟩
      case round =>
        obtain ⟨j, rfl, hj, rfl, hbel⟩ := hrel
        have B15 := hid hbel
        clear hbel
        by_cases hjl : A + j < C
        · have hjl' : ((A + j : Nat) : Int) < (C : Int) := by omega
          have hj48 : ((A + j : Nat) : Int) < 48 := by omega
          have hle := LOW.out.1 (A + j) (by omega) hjl
          have hvj := hid (valueR_fine F1.out (A + j) (by omega))
          obtain ⟨v, hv⟩ : ∃ v, vals l (A + j) = v := ⟨_, rfl⟩
          have hvj : Hid (valueR l ((A + j : Nat) : Int) = (v, 0)) := by rw [hvj.out, hv]; exact rfl
          rw [hv] at hle
          have HV := hid hv
          clear hv
          have hnl : ¬ v < low := by omega
          have hnl' : decide (v < low) = false := by simpa using hle
          have SN : Hid (seen l A low (j + 1) = (seen l A low j || (v == low))) := by rw [← HV.out]; exact rfl
          obtain ⟨sj, hsj⟩ : ∃ b, seen l A low j = b := ⟨_, rfl⟩
          rw [hsj] at SN ⊢
          clear hsj
          go_wp2_with fail
          have K1 := Value_any wr a n cap l ((A + j : Nat) : Int) (hL.later B15.out)
          rw [hvj.out] at K1
          refine K1.mono ?_
          clear K1
          rintro e w16 ⟨rfl, B⟩
          have B16 := hid (below_from B15.out B)
          clear B B15
          cases sj with
          | true =>
            go_wp2
            go_roundw
            case rel => exact ⟨j + 1, by go_num, by omega, by rw [SN.out]; rfl, B16.out⟩
            case measure => simp [intOf]; omega
          | false =>
            go_wp2
            go_roundw
            case rel => exact ⟨j + 1, by go_num, by omega, by rw [SN.out]; rfl, B16.out⟩
            case measure => simp [intOf]; omega
        · obtain rfl : C = A + j := by omega
          have hs : seen l A low j = true := by
            obtain ⟨_, s, s1, s2, s3⟩ := LOW.out
            exact seen_of j s1 s2 s3
          rw [hs]
          clear hs
          go_wp2_with fail
          refine (FIN.out wr B15.out).mono ?_
          rintro e w17 ⟨rfl, B⟩
          go_wp2
          go_ret
          exact ⟨rfl, B⟩

theorem wf_range {x : Int} (h : (Lit.int .i64 x).wf = true) : -9223372036854775808 ≤ x ∧ x ≤ 9223372036854775807 := by
  simp [Lit.wf, IntKind.min, IntKind.max, IntKind.signed, IntKind.bits] at h
  exact ⟨by omega, by omega⟩

set_option maxRecDepth 100000 in
theorem RunsTrue_lifted (os : Os) (started : os.Started) (H : Type) (enc : TypeId × Value → H) :
    ReturnsInHanded {} Try.checked os 6 .any (Rows.runsTrueSpec.pre6 enc Try.prog Try.f6 Rows.runsTrueRow.domain false) (Rows.runsTrueSpec.post enc Try.prog Try.f6 false true false false) := by
  refine returnsInHanded_of_change (C := Try.checked) own started (by kernel_rfl) Try.func6
    (ChangeSpec.witness6 (enc := enc) (C := Try.checked) false ⟨#[], #[.slice none 0 0, .slice none 0 0, .int .i64 0, .int .i64 0, .int .i64 0], []⟩ 8 (by kernel_rfl) (by kernel_rfl) (by kernel_rfl) (by kernel_rfl)) ?_
  intro W base args ds gs before hval0 hW hcnd _
  have hval : ∀ (j : Nat) t v, Try.f6.params[j]? = some t → args[j]? = some v → Value.okWide Try.prog W .any base t v := hval0
  have hW' := hW
  obtain ⟨p, q, hA0, hV, rfl, hfz, hnd⟩ := hW
  have hA : DataW.TrodAll enc Try.prog W 0 (fun _ => true) true Try.f6.params.toList args.toList ds p := hA0
  rw [Try.params6] at hA hval
  obtain ⟨v0, vs0, d0, ds0, p0, q0, hargs, rfl, rfl, h0, r0⟩ := trodAll_cons hA
  obtain ⟨v1, vs1, d1, ds1, p1, q1, rfl, rfl, rfl, h1, r1⟩ := trodAll_cons r0
  obtain ⟨v2, vs2, d2, ds2, p2, q2, rfl, rfl, rfl, h2, r2⟩ := trodAll_cons r1
  obtain ⟨v3, vs3, d3, ds3, p3, q3, rfl, rfl, rfl, h3, r3⟩ := trodAll_cons r2
  obtain ⟨v4, vs4, d4, ds4, p4, q4, rfl, rfl, rfl, h4, r4⟩ := trodAll_cons r3
  obtain ⟨rfl, rfl, rfl⟩ := trodAll_nil r4
  obtain rfl : args = #[v0, v1, v2, v3, v4] := by cases args; simp_all
  obtain ⟨rfl, rfl⟩ := trodVars_none hV
  obtain ⟨a0, len0, cap0, rfl⟩ := okWide_slice Try.underlying22 (hval 0 22 v0 rfl rfl)
  have k0 := h0
  have lt0 : ∀ x ∈ p0, x.block < W.heap.size := by obtain ⟨m, hm⟩ := k0; exact DataW.trod_lt m _ _ _ hm
  obtain ⟨l0, w0⟩ : ∃ l, RunsIn W a0 len0 cap0 l := by
    obtain ⟨fuel, hf⟩ := h0
    exact runs_open (by simp [Value.cells]) hf
  obtain ⟨a1, len1, cap1, rfl⟩ := okWide_slice Try.underlying22 (hval 1 22 v1 rfl rfl)
  have k1 := h1
  have lt1 : ∀ x ∈ p1, x.block < W.heap.size := by obtain ⟨m, hm⟩ := k1; exact DataW.trod_lt m _ _ _ hm
  obtain ⟨l1, w1⟩ : ∃ l, RunsIn W a1 len1 cap1 l := by
    obtain ⟨fuel, hf⟩ := h1
    exact runs_open (by simp [Value.cells]) hf
  obtain ⟨a2, rfl, rfl, rfl, w2⟩ := open_int Try.underlying3 (hval 2 3 v2 rfl rfl) h2
  obtain ⟨a3, rfl, rfl, rfl, w3⟩ := open_int Try.underlying3 (hval 3 3 v3 rfl rfl) h3
  obtain ⟨a4, rfl, rfl, rfl, w4⟩ := open_int Try.underlying3 (hval 4 3 v4 rfl rfl) h4
  clear hA0 hval0
  refine (RunsTrue_walk W a0 len0 cap0 l0 a1 len1 cap1 l1 a2 a3 a4 w0 w1 (wf_range w2).1 (wf_range w2).2).mono fun e W' ⟨he, bel⟩ => ?_
  subst he
  exact ⟨_, rfl, _, _, _, [], _, [], hW', trodAll_mk1 (shut_bool Try.underlying4 _), (trodAll_cons_mk (Below.trod laidOut (by kernel_rfl) (of_decide_eq_true (by kernel_rfl)) k0 bel lt0) (trodAll_cons_mk (Below.trod laidOut (by kernel_rfl) (of_decide_eq_true (by kernel_rfl)) k1 bel lt1) (trodAll_cons_mk (shut_int Try.underlying3 w2) (trodAll_cons_mk (shut_int Try.underlying3 w3) (trodAll_cons_mk (shut_int Try.underlying3 w4) trodAll_mk0))))), rfl, bel.frame _, fun h => by cases h⟩

theorem RunsTrue_holds : Rows.RunsTrueSaid :=
  OpenClaim.holds_of_wide 6 Try.f6 rfl rfl rfl rfl rfl rfl rfl ⟨rfl, rfl, rfl, rfl, rfl⟩ rfl rfl rfl rfl rfl (by kernel_rfl) Try.func6 (by kernel_rfl)
    (of_decide_eq_true (by kernel_rfl)) (by unfold Func.isWrapper; first | (rw [if_pos (by decide +kernel)]; kernel_rfl) | (rw [if_neg (by decide +kernel)]; exact ⟨rfl, rfl⟩))
    (fun os started H enc _ => RunsTrue_lifted os started H enc)
#print axioms RunsTrue_holds
end Go.Proofs.Ytdomonpjgldfgaa
