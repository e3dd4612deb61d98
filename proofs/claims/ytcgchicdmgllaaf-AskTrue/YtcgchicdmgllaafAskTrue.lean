/- AskTrue: whatever state, two numbers and request it is handed, the call returns true, and its arguments read afterwards as they read before. -/
import Derived.Test.YtcgchicdmgllaafAskE
import Derived.Test.YtcgchicdmgllaafFrameS
import Derived.Deep.DeepCutAuto
namespace Go.Proofs.Ytcgchicdmgllaaf
open Go.ChangeShapes Go.WideShapes Go.ChangeAt Go.RowKit

theorem low_le (x : RunL) : ∀ {k j : Nat}, j < k → lowAt x k ≤ rN x j
  | 0, _, h => by omega
  | k + 1, j, h => by
    rw [lowAt]
    by_cases e : j = k
    · subst e; split <;> omega
    · have := low_le x (k := k) (j := j) (by omega)
      split <;> omega
theorem low_is (x : RunL) : ∀ {k : Nat}, 0 < k → ∃ j, j < k ∧ lowAt x k = rN x j
  | 0, h => by omega
  | 1, _ => ⟨0, by omega, by rw [lowAt, lowAt]; split <;> rfl⟩
  | k + 2, _ => by
    obtain ⟨j, h1, h2⟩ := low_is x (k := k + 1) (by omega)
    rw [lowAt]
    by_cases e : rN x (k + 1) < lowAt x (k + 1)
    · exact ⟨k + 1, by omega, if_pos e⟩
    · exact ⟨j, by omega, (if_neg e).trans h2⟩
/-- did one of the first k begin at a? -/
def begB (x : RunL) (a : Int) : Nat → Bool
  | 0 => false
  | k + 1 => begB x a k || (rN x k == a)
theorem begB_true {x : RunL} {a : Int} : ∀ {k j : Nat}, j < k → rN x j = a → begB x a k = true
  | 0, _, h, _ => by omega
  | k + 1, j, h, e => by
    rw [begB]
    by_cases h1 : j = k
    · subst h1; simp [e]
    · rw [begB_true (k := k) (j := j) (by omega) e]; rfl
theorem value_at {f : RunL} {t : Int} {x : Int} (h : valueR f t = (x, 0)) : 0 ≤ t ∧ t < 48 ∧ x = vals f t.toNat := by
  unfold valueR at h
  split at h
  · split at h
    · rename_i h2
      simp [wth] at h2
      refine ⟨by omega, by omega, ?_⟩
      simp only [Prod.mk.injEq, and_true] at h
      unfold vals
      rw [← h, Int.toNat_of_nonneg (by omega)]
    · simp at h
  · simp at h
theorem value_of {f : RunL} (hf : Fine f) {t : Int} (h0 : 0 ≤ t) (h1 : t < 48) : valueR f t = (vals f t.toNat, 0) := by
  unfold valueR
  rw [if_pos (fine_iff.2 hf), if_pos (by simp [wth]; omega)]
  unfold vals
  rw [Int.toNat_of_nonneg h0]
/-- J1: what is left is no more than a queue has, less what is taken there -/
theorem ask_facts {c n : Int} {l : QL} {b : BL} {q t x y : Int} (h1 : busyR c n l b q t = (x, 0)) (h2 : leftR c n l b q t = (y, 0)) (q0 : 0 ≤ q) (q1 : q < l.length) :
    ∃ z, valueR (qu l q.toNat).runs t = (z, 0) ∧ 0 ≤ z ∧ z ≤ 50 ∧ 0 ≤ x ∧ x ≤ 1800 ∧ y ≤ z - x ∧ (c ≤ t → 0 ≤ y) := by
  unfold busyR at h1
  unfold leftR at h2
  by_cases he : planE c n l b = 0
  · rw [if_pos he, if_pos ⟨q0, q1⟩] at h1
    have hS := sound_of he
    have er : roomE l b q = 0 := by
      unfold roomE
      rw [if_pos (chkL_clean hS.clean), if_pos ⟨q0, q1⟩]
    rw [if_pos he, if_pos er] at h2
    obtain ⟨t0, t1, ex⟩ := value_at h1
    obtain ⟨_, _, ey⟩ := value_at h2
    obtain ⟨cF, cv⟩ := cap_val hS.clean.tree (p := q.toNat) (by omega)
    have hu := (taken_val hS.clean b.length (Nat.le_refl _) q.toNat).2 t.toNat (by omega)
    have hin : ((q.toNat : Nat) : Int) ∈ lineOf l q := by
      rw [Int.toNat_of_nonneg q0]
      show q ∈ lineF l 5 q
      rw [lineF, if_pos q0]
      exact List.mem_cons_self ..
    have hle := room_le hS.clean q1 hin (t := t.toNat) (by omega)
    have hfew := hS.clean.few
    refine ⟨_, value_of cF t0 t1, (cv _).1, (cv _).2, by omega, by omega, by omega, fun hc => ?_⟩
    rw [ey]
    exact room_left hS q1 (by omega) (by omega)
  · rw [if_neg he] at h1
    simp only [Prod.mk.injEq] at h1
    exact absurd h1.2 he
theorem last_bs {b b9 : BL} {X : Bk} (h : bareB b9 = bareB (b ++ [X])) : (bk b9 b.length).bs = X.bs := by
  have e : (bk b9 b.length).bare = X.bare := by rw [← bk_bare, h, bk_bare, bk_end]
  show (bk b9 b.length).bare.bs = X.bare.bs
  rw [e]

set_option maxRecDepth 100000 in
set_option maxHeartbeats 16000000 in
theorem AskTrue_walk (w : World) (c n : Int) (ta : Option Addr) (tn tc : Nat) (l : QL) (ba : Option Addr) (bn bc : Nat) (b : BL) (h : StIn w ta tn tc l ba bn bc b) (q : Int) (_p0 : -9223372036854775808 ≤ q) (_p1 : q ≤ 9223372036854775807) (t : Int) (_q0 : -9223372036854775808 ≤ t) (_q1 : t ≤ 9223372036854775807) (r : Rq) (hr : RqIn w r) :
    Calls Try.prog 3 #[.agg #[.int .i64 c, .int .i64 n, .slice ta tn tc, .slice ba bn bc], .int .i64 q, .int .i64 t, .agg #[.int .i64 r.queue, .int .i64 r.fr, .int .i64 r.un, .int .i64 r.kind, .slice r.pa r.pn r.pc]] w fun e w' => e = .returned (.bool true) ∧ Below w.heap.size w w' := by
  obtain ⟨S, hS⟩ : ∃ S, w.heap.size = S := ⟨_, rfl⟩
  obtain ⟨W1, hW1⟩ : ∃ W1, W1 = (w.alloc (.cells #[.int .i64 c, .int .i64 n, .slice ta tn tc, .slice ba bn bc] 25)).alloc (.cells #[.int .i64 r.queue, .int .i64 r.fr, .int .i64 r.un, .int .i64 r.kind, .slice r.pa r.pn r.pc] 28) := ⟨_, rfl⟩
  obtain ⟨x1, x2, hb0, _⟩ := two_boxes w _ _ _ _ r hW1
  rw [hS] at x1 x2
  obtain ⟨⟨x, e1⟩, hB⟩ : ∃ p, busyR c n l b q t = p := ⟨_, rfl⟩
  obtain ⟨⟨y, e2⟩, hL⟩ : ∃ p, leftR c n l b q t = p := ⟨_, rfl⟩
  have KB := Busy_any W1 c n ta tn tc l ba bn bc b (h.later hb0) q t
  have KL := fun X (hX : Below w.heap.size w X) => Left_any X c n ta tn tc l ba bn bc b (h.later hX) q t
  rw [hB] at KB
  rw [hL] at KL
  have HKB := hid KB
  have HKL := hid KL
  have HFB := hid hB
  have HFL := hid hL
  have KSW := hid fun X (hX : Below w.heap.size w X) => Soonest_wrong X c n ta tn tc l ba bn bc b (h.later hX) r (RqIn.later hr hX)
  have KSO := hid fun X (hX : Below w.heap.size w X) => Soonest_ok X c n ta tn tc l ba bn bc b (h.later hX) r (RqIn.later hr hX)
  have KUA := hid fun X (hX : Below w.heap.size w X) => Submit_any X c n ta tn tc l ba bn bc b (h.later hX) r (RqIn.later hr hX)
  have KUO := hid fun X (hX : Below w.heap.size w X) => Submit_ok X c n ta tn tc l ba bn bc b (h.later hX) r (RqIn.later hr hX)
  have HST := hid h
  have HX1 := hid x1
  have HX2 := hid x2
  have HB0 := hid hb0
  have HW1 := hid hW1
  obtain ⟨c0, c1, c2, c3⟩ := x1.cells
  obtain ⟨d0, d1, d2, d3, d4⟩ := x2.cells
  have HTN := hid h.1.len
  have HBN := hid h.2.len
  have htle := h.1.le
  have htcb := h.1.capb
  have hble := h.2.le
  have hbcb := h.2.capb
  clear hW1 x1 x2 hb0 KB KL hB hL hr
  clear h
  go_enter Try.func3, Try.ntmps3
  go_wp2_with fail
  rw [← HW1.out]
  refine HKB.out.mono ?_
  rintro e w1 ⟨rfl, hb⟩
  have HB1 := hid (below_from HB0.out hb)
  have HS1 := hid (HX1.out.later hb)
  have HR1 := hid (HX2.out.later hb)
  clear hb c0 c1 c2 c3 d0 d1 d2 d3 d4
  obtain ⟨c0, c1, c2, c3⟩ := HS1.out.cells
  go_wp2_with fail
  refine (HKL.out w1 HB1.out).mono ?_
  rintro e w2 ⟨rfl, hb⟩
  have HB2 := hid (below_from HB1.out hb)
  have HS2 := hid (HS1.out.later hb)
  have HR2 := hid (HR1.out.later hb)
  clear hb c0 c1 c2 c3
  obtain ⟨c0, c1, c2, c3⟩ := HS2.out.cells
  obtain ⟨d0, d1, d2, d3, d4⟩ := HR2.out.cells
  by_cases h1 : e1 = 0
  · have h1' : (e1 == 0) = true := by simp [h1]
    by_cases h2 : e2 = 0
    · have h2' : (e2 == 0) = true := by simp [h2]
      by_cases q0 : 0 ≤ q
      · by_cases q1 : q < tn
        · obtain ⟨k, rfl⟩ : ∃ k : Nat, q = k := ⟨q.toNat, by omega⟩
          have hk : k < tn := by omega
          obtain ⟨z, hz, z0, z1, x0, x9, yz, yc⟩ := ask_facts (by rw [HFB.out, h1]) (by rw [HFL.out, h2]) q0 (by have := HTN.out; omega)
          rw [Int.toNat_natCast] at hz
          obtain ⟨qb, qo, rfl, hcs⟩ := (HST.out.1.later HB2.out).cells (by omega)
          obtain ⟨_, _, s2⟩ := hcs k hk
          have KV := Value_any w2 _ _ _ _ t ((HST.out.1.later HB2.out).caps k hk)
          rw [hz] at KV
          have HKV := hid KV
          have n1 : ¬ z - x < y := by omega
          have n2 : ¬ x < 0 := by omega
          clear hcs KV hz h1 h2
          go_wp2_with fail
          refine HKV.out.mono ?_
          rintro e w3 ⟨rfl, hb⟩
          have HB3 := hid (below_from HB2.out hb)
          have HS3 := hid (HS2.out.later hb)
          have HR3 := hid (HR2.out.later hb)
          clear hb c0 c1 c2 c3 d0 d1 d2 d3 d4 s2
          obtain ⟨c0, c1, c2, c3⟩ := HS3.out.cells
          obtain ⟨d0, d1, d2, d3, d4⟩ := HR3.out.cells
          by_cases htc : c ≤ t
          · have n3 : ¬ y < 0 := by have := yc htc; omega
            clear yc
            by_cases g0 : seekE c n l b r = 0
            · have KS5 := KSO.out w3 HB3.out g0
              by_cases u2 : subE c n l b r = 2
              · have KU5 := KUA.out
                rw [u2] at KU5
                obtain ⟨A0, hA0⟩ : ∃ A0, (if (placeR l b r).2 = true then lowAt (placeR l b r).1 (placeR l b r).1.length else 0) = A0 := ⟨_, rfl⟩
                rw [hA0] at KS5
                obtain ⟨F0, hF0⟩ : ∃ F0, (placeR l b r).2 = F0 := ⟨_, rfl⟩
                rw [hF0] at KS5
                replace KU5 := hid KU5
                replace KS5 := hid KS5
                clear u2 g0 hA0 hF0
                go_wp2_with fail
                refine (KS5.out).mono ?_
                rintro e w5 ⟨rfl, hb⟩
                have HB5 := hid (below_from HB3.out hb)
                have HS5 := hid (HS3.out.later hb)
                have HR5 := hid (HR3.out.later hb)
                clear hb c0 c1 c2 c3 d0 d1 d2 d3 d4
                obtain ⟨c0, c1, c2, c3⟩ := HS5.out.cells
                obtain ⟨d0, d1, d2, d3, d4⟩ := HR5.out.cells
                go_wp2_with fail
                refine (KU5.out w5 HB5.out).mono ?_
                rintro e w6 ⟨i1, i2, s1, n1, k1, s2, n2, k2, xx, rfl, hb⟩
                obtain ⟨U, hU⟩ : ∃ U, U = w6.alloc (.cells #[.int .i64 i1, .int .i64 i2, .slice s1 n1 k1, .slice s2 n2 k2] 25) := ⟨_, rfl⟩
                have hbU : Below w6.heap.size w6 U := by rw [hU]; exact (Below.refl _ _).alloc (Nat.le_refl _) _
                have HBU := hid (below_from (below_from HB5.out hb) hbU)
                have HU := hid hU
                clear hb hU hbU c0 c1 c2 c3 d0 d1 d2 d3 d4
                go_wp2_with fail
                rw [← HU.out]
                refine (askBegun_any U).mono ?_
                rintro e w9 ⟨rfl, hb⟩
                have HB9 := hid (below_from HBU.out hb)
                clear hb
                go_wp2
                go_ret
                exact ⟨rfl, HB9.out⟩
              · by_cases fp : (placeR l b r).2 = true
                · have u0 : subE c n l b r = 0 := by
                    unfold subE at u2 ⊢
                    rw [if_pos g0] at u2 ⊢
                    by_cases m : 12 ≤ b.length ∨ 1048576 ≤ n
                    · rw [if_pos m] at u2; exact absurd rfl u2
                    · rw [if_neg m, if_pos fp]
                  have hp0 := place_some g0 fp
                  have KU5 := hid fun X hX => KUO.out X hX u0
                  have hb12 : bn < 12 := by have := (sub_ok u0).2.1; have := HBN.out; omega
                  obtain ⟨X, hX⟩ : ∃ X, (placeR l b r).1 = X := ⟨_, rfl⟩
                  rw [if_pos fp, fp, hX] at KS5
                  rw [hX] at KU5 hp0
                  obtain ⟨a, ha⟩ : ∃ a, lowAt X X.length = a := ⟨_, rfl⟩
                  rw [ha] at KS5
                  replace KS5 := hid KS5
                  have HLO := hid fun j (hj : j < X.length) => (low_le X hj : lowAt X X.length ≤ rN X j)
                  rw [ha] at HLO
                  have HBG : Hid (begB X a X.length = true) := by
                    obtain ⟨j, h1, h2⟩ := low_is X hp0
                    exact hid (begB_true h1 (by rw [← h2, ha]))
                  have HP0 := hid hp0
                  clear u2 g0 fp u0 hX ha hp0
                  go_wp2_with fail
                  refine (KS5.out).mono ?_
                  rintro e w5 ⟨rfl, hb⟩
                  have HB5 := hid (below_from HB3.out hb)
                  have HS5 := hid (HS3.out.later hb)
                  have HR5 := hid (HR3.out.later hb)
                  clear hb c0 c1 c2 c3 d0 d1 d2 d3 d4
                  obtain ⟨c0, c1, c2, c3⟩ := HS5.out.cells
                  obtain ⟨d0, d1, d2, d3, d4⟩ := HR5.out.cells
                  go_wp2_with fail
                  refine (KU5.out w5 HB5.out).mono ?_
                  rintro e w6 ⟨g, k1, l4, g9, k9, b9, rfl, hSt, hbq, hbb, hb⟩
                  obtain ⟨U, hU⟩ : ∃ U, U = w6.alloc (.cells #[.int .i64 c, .int .i64 (n + 1), .slice (some ⟨g, 0, none⟩) tn k1, .slice (some ⟨g9, 0, none⟩) (bn + 1) k9] 25) := ⟨_, rfl⟩
                  have hbU : Below w6.heap.size w6 U := by rw [hU]; exact (Below.refl _ _).alloc (Nat.le_refl _) _
                  have HBU := hid (below_from (below_from HB5.out hb) hbU)
                  have HU := hid hU
                  obtain ⟨A, hA⟩ : ∃ A, w6.heap.size = A := ⟨_, rfl⟩
                  have HA : Hid (StBox U A (.int .i64 c) (.int .i64 (n + 1)) (.slice (some ⟨g, 0, none⟩) tn k1) (.slice (some ⟨g9, 0, none⟩) (bn + 1) k9)) := hid (by rw [hU, ← hA]; exact StBox.new w6 _ _ _ _)
                  have hSU := hSt.later hbU
                  have hbt := hSU.2.bites bn (by omega)
                  obtain ⟨bb, bo, e9, hcs⟩ := hSU.2.cells (by omega)
                  simp only [Option.some.injEq, Addr.mk.injEq, and_true] at e9
                  obtain ⟨rfl, rfl⟩ := e9
                  obtain ⟨_, _, _, _, _, _, e6⟩ := hcs bn (by omega)
                  have hlb := last_bs hbb
                  rw [← HBN.out] at hlb
                  rw [hlb] at hbt
                  obtain ⟨va, vn, vc, hva⟩ : ∃ va vn vc, Value.slice (bk b9 bn).ba (bk b9 bn).bn (bk b9 bn).bc = .slice va vn vc ∧ RunsIn U va vn vc X := ⟨_, _, _, rfl, hbt⟩
                  rw [hva.1] at e6
                  simp only [Nat.zero_add] at e6
                  have hvr := hva.2
                  have hk9 : bn + 1 ≤ k9 := hSU.2.le
                  have hk9b : k9 ≤ 9223372036854775807 := hSU.2.capb
                  have hvl := hvr.len
                  have hvp : 0 < vn := by have := HP0.out; omega
                  obtain ⟨vb, vo, rfl, hcv⟩ := hvr.cells hvp
                  have hvle := hvr.le
                  have hvbd := hvr.bound
                  have hvcb := hvr.capb
                  have HVL := hid hvl
                  have HCV := hid hcv
                  obtain ⟨a0, a1, a2, a3⟩ := HA.out.cells
                  rw [HU.out] at a0 a1 a2 a3 e6
                  clear hb hU hbU hSt hSU hbq hbb hbt hcs hlb hva hvr hvl hcv c0 c1 c2 c3 d0 d1 d2 d3 d4
                  have hx1 : (bn : Int) + 1 - 1 = bn := by omega
                  have hx2 : (bn : Int) < (bn : Int) + 1 := by omega
                  have hx3 : ¬ (bn : Int) + 1 = 0 := by omega
                  go_wp2
                  go_loopw [22, 23] (fun y p wr => ∃ j : Nat, y = .bool (begB X a j) ∧ p = .int .i64 j ∧ j ≤ vn ∧ Below U.heap.size U wr) (fun _ p _ => vn - (intOf p).toNat)
                  case atStart => exact ⟨0, rfl, rfl, by omega, by rw [HU.out]; exact Below.refl _ _⟩
                  case round =>
                    obtain ⟨j, rfl, rfl, hj, hbel⟩ := hrel
                    have HBE := hid hbel
                    by_cases hlt : j < vn
                    · have hlt' : (j : Int) < vn := by omega
                      have y1 := cell_later hbel (HCV.out j hlt).2
                      have hlo : ¬ rN X j < a := by have := HLO.out j (by have := HVL.out; omega); omega
                      have hst : begB X a (j + 1) = (begB X a j || (rN X j == a)) := rfl
                      have HST' := hid hst
                      clear hbel hst
                      cases hbg : begB X a j with
                      | true =>
                        rw [hbg] at HST'
                        have HS9 : Hid (begB X a (j + 1) = true) := hid (HST'.out.trans (by simp))
                        clear hbg
                        go_wp2
                        go_roundw
                        case rel => exact ⟨j + 1, by rw [HS9.out], by go_num, by omega, HBE.out⟩
                        case measure => simp [intOf]; omega
                      | false =>
                        rw [hbg] at HST'
                        have HS9 : Hid (begB X a (j + 1) = (rN X j == a)) := hid (HST'.out.trans (by simp))
                        clear hbg
                        go_wp2
                        go_roundw
                        case rel => exact ⟨j + 1, by rw [HS9.out], by go_num, by omega, HBE.out⟩
                        case measure => simp [intOf]; omega
                    · obtain rfl : j = vn := by omega
                      have hbv : begB X a j = true := by have := HBG.out; rwa [← HVL.out] at this
                      rw [hbv]
                      clear hbel
                      go_wp2_with fail
                      refine (askBegun_any wr).mono ?_
                      rintro e w9 ⟨rfl, hb⟩
                      have HB9 := hid (below_from (below_from HBU.out HBE.out) hb)
                      clear hb
                      go_wp2
                      go_ret
                      exact ⟨rfl, HB9.out⟩
                · have fp' : (placeR l b r).2 = false := by simpa using fp
                  have u8 : subE c n l b r = 8 := by
                    unfold subE at u2 ⊢
                    rw [if_pos g0] at u2 ⊢
                    by_cases m : 12 ≤ b.length ∨ 1048576 ≤ n
                    · rw [if_pos m] at u2; exact absurd rfl u2
                    · rw [if_neg m, if_neg fp]
                  rw [if_neg fp, fp'] at KS5
                  have KU5 := KUA.out
                  rw [u8] at KU5
                  replace KU5 := hid KU5
                  replace KS5 := hid KS5
                  clear u2 g0 fp fp' u8
                  go_wp2_with fail
                  refine (KS5.out).mono ?_
                  rintro e w5 ⟨rfl, hb⟩
                  have HB5 := hid (below_from HB3.out hb)
                  have HS5 := hid (HS3.out.later hb)
                  have HR5 := hid (HR3.out.later hb)
                  clear hb c0 c1 c2 c3 d0 d1 d2 d3 d4
                  obtain ⟨c0, c1, c2, c3⟩ := HS5.out.cells
                  obtain ⟨d0, d1, d2, d3, d4⟩ := HR5.out.cells
                  go_wp2_with fail
                  refine (KU5.out w5 HB5.out).mono ?_
                  rintro e w6 ⟨i1, i2, s1, n1, k1, s2, n2, k2, xx, rfl, hb⟩
                  obtain ⟨U, hU⟩ : ∃ U, U = w6.alloc (.cells #[.int .i64 i1, .int .i64 i2, .slice s1 n1 k1, .slice s2 n2 k2] 25) := ⟨_, rfl⟩
                  have hbU : Below w6.heap.size w6 U := by rw [hU]; exact (Below.refl _ _).alloc (Nat.le_refl _) _
                  have HBU := hid (below_from (below_from HB5.out hb) hbU)
                  have HU := hid hU
                  clear hb hU hbU c0 c1 c2 c3 d0 d1 d2 d3 d4
                  go_wp2_with fail
                  rw [← HU.out]
                  refine (askBegun_any U).mono ?_
                  rintro e w9 ⟨rfl, hb⟩
                  have HB9 := hid (below_from HBU.out hb)
                  clear hb
                  go_wp2
                  go_ret
                  exact ⟨rfl, HB9.out⟩
            · have KS5 := KSW.out w3 HB3.out g0
              have KU5 := KUA.out
              have eu : subE c n l b r = seekE c n l b r := if_neg g0
              rw [eu] at KU5
              obtain ⟨E, hE⟩ : ∃ E, seekE c n l b r = E := ⟨_, rfl⟩
              rw [hE] at KU5 KS5 g0
              have hne : (E != 0) = true := by simp [g0]
              have hee : (E == E) = true := by simp
              replace KU5 := hid KU5
              replace KS5 := hid KS5
              clear g0 eu hE
              go_wp2_with fail
              refine (KS5.out).mono ?_
              rintro e w5 ⟨rfl, hb⟩
              have HB5 := hid (below_from HB3.out hb)
              have HS5 := hid (HS3.out.later hb)
              have HR5 := hid (HR3.out.later hb)
              clear hb c0 c1 c2 c3 d0 d1 d2 d3 d4
              obtain ⟨c0, c1, c2, c3⟩ := HS5.out.cells
              obtain ⟨d0, d1, d2, d3, d4⟩ := HR5.out.cells
              go_wp2_with fail
              refine (KU5.out w5 HB5.out).mono ?_
              rintro e w6 ⟨i1, i2, s1, n1, k1, s2, n2, k2, xx, rfl, hb⟩
              obtain ⟨U, hU⟩ : ∃ U, U = w6.alloc (.cells #[.int .i64 i1, .int .i64 i2, .slice s1 n1 k1, .slice s2 n2 k2] 25) := ⟨_, rfl⟩
              have hbU : Below w6.heap.size w6 U := by rw [hU]; exact (Below.refl _ _).alloc (Nat.le_refl _) _
              have HBU := hid (below_from (below_from HB5.out hb) hbU)
              have HU := hid hU
              clear hb hU hbU c0 c1 c2 c3 d0 d1 d2 d3 d4
              go_wp2_with fail
              rw [← HU.out]
              refine (askBegun_any U).mono ?_
              rintro e w9 ⟨rfl, hb⟩
              have HB9 := hid (below_from HBU.out hb)
              clear hb
              go_wp2
              go_ret
              exact ⟨rfl, HB9.out⟩
          · clear yc
            by_cases g0 : seekE c n l b r = 0
            · have KS5 := KSO.out w3 HB3.out g0
              by_cases u2 : subE c n l b r = 2
              · have KU5 := KUA.out
                rw [u2] at KU5
                obtain ⟨A0, hA0⟩ : ∃ A0, (if (placeR l b r).2 = true then lowAt (placeR l b r).1 (placeR l b r).1.length else 0) = A0 := ⟨_, rfl⟩
                rw [hA0] at KS5
                obtain ⟨F0, hF0⟩ : ∃ F0, (placeR l b r).2 = F0 := ⟨_, rfl⟩
                rw [hF0] at KS5
                replace KU5 := hid KU5
                replace KS5 := hid KS5
                clear u2 g0 hA0 hF0
                go_wp2_with fail
                refine (KS5.out).mono ?_
                rintro e w5 ⟨rfl, hb⟩
                have HB5 := hid (below_from HB3.out hb)
                have HS5 := hid (HS3.out.later hb)
                have HR5 := hid (HR3.out.later hb)
                clear hb c0 c1 c2 c3 d0 d1 d2 d3 d4
                obtain ⟨c0, c1, c2, c3⟩ := HS5.out.cells
                obtain ⟨d0, d1, d2, d3, d4⟩ := HR5.out.cells
                go_wp2_with fail
                refine (KU5.out w5 HB5.out).mono ?_
                rintro e w6 ⟨i1, i2, s1, n1, k1, s2, n2, k2, xx, rfl, hb⟩
                obtain ⟨U, hU⟩ : ∃ U, U = w6.alloc (.cells #[.int .i64 i1, .int .i64 i2, .slice s1 n1 k1, .slice s2 n2 k2] 25) := ⟨_, rfl⟩
                have hbU : Below w6.heap.size w6 U := by rw [hU]; exact (Below.refl _ _).alloc (Nat.le_refl _) _
                have HBU := hid (below_from (below_from HB5.out hb) hbU)
                have HU := hid hU
                clear hb hU hbU c0 c1 c2 c3 d0 d1 d2 d3 d4
                go_wp2_with fail
                rw [← HU.out]
                refine (askBegun_any U).mono ?_
                rintro e w9 ⟨rfl, hb⟩
                have HB9 := hid (below_from HBU.out hb)
                clear hb
                go_wp2
                go_ret
                exact ⟨rfl, HB9.out⟩
              · by_cases fp : (placeR l b r).2 = true
                · have u0 : subE c n l b r = 0 := by
                    unfold subE at u2 ⊢
                    rw [if_pos g0] at u2 ⊢
                    by_cases m : 12 ≤ b.length ∨ 1048576 ≤ n
                    · rw [if_pos m] at u2; exact absurd rfl u2
                    · rw [if_neg m, if_pos fp]
                  have hp0 := place_some g0 fp
                  have KU5 := hid fun X hX => KUO.out X hX u0
                  have hb12 : bn < 12 := by have := (sub_ok u0).2.1; have := HBN.out; omega
                  obtain ⟨X, hX⟩ : ∃ X, (placeR l b r).1 = X := ⟨_, rfl⟩
                  rw [if_pos fp, fp, hX] at KS5
                  rw [hX] at KU5 hp0
                  obtain ⟨a, ha⟩ : ∃ a, lowAt X X.length = a := ⟨_, rfl⟩
                  rw [ha] at KS5
                  replace KS5 := hid KS5
                  have HLO := hid fun j (hj : j < X.length) => (low_le X hj : lowAt X X.length ≤ rN X j)
                  rw [ha] at HLO
                  have HBG : Hid (begB X a X.length = true) := by
                    obtain ⟨j, h1, h2⟩ := low_is X hp0
                    exact hid (begB_true h1 (by rw [← h2, ha]))
                  have HP0 := hid hp0
                  clear u2 g0 fp u0 hX ha hp0
                  go_wp2_with fail
                  refine (KS5.out).mono ?_
                  rintro e w5 ⟨rfl, hb⟩
                  have HB5 := hid (below_from HB3.out hb)
                  have HS5 := hid (HS3.out.later hb)
                  have HR5 := hid (HR3.out.later hb)
                  clear hb c0 c1 c2 c3 d0 d1 d2 d3 d4
                  obtain ⟨c0, c1, c2, c3⟩ := HS5.out.cells
                  obtain ⟨d0, d1, d2, d3, d4⟩ := HR5.out.cells
                  go_wp2_with fail
                  refine (KU5.out w5 HB5.out).mono ?_
                  rintro e w6 ⟨g, k1, l4, g9, k9, b9, rfl, hSt, hbq, hbb, hb⟩
                  obtain ⟨U, hU⟩ : ∃ U, U = w6.alloc (.cells #[.int .i64 c, .int .i64 (n + 1), .slice (some ⟨g, 0, none⟩) tn k1, .slice (some ⟨g9, 0, none⟩) (bn + 1) k9] 25) := ⟨_, rfl⟩
                  have hbU : Below w6.heap.size w6 U := by rw [hU]; exact (Below.refl _ _).alloc (Nat.le_refl _) _
                  have HBU := hid (below_from (below_from HB5.out hb) hbU)
                  have HU := hid hU
                  obtain ⟨A, hA⟩ : ∃ A, w6.heap.size = A := ⟨_, rfl⟩
                  have HA : Hid (StBox U A (.int .i64 c) (.int .i64 (n + 1)) (.slice (some ⟨g, 0, none⟩) tn k1) (.slice (some ⟨g9, 0, none⟩) (bn + 1) k9)) := hid (by rw [hU, ← hA]; exact StBox.new w6 _ _ _ _)
                  have hSU := hSt.later hbU
                  have hbt := hSU.2.bites bn (by omega)
                  obtain ⟨bb, bo, e9, hcs⟩ := hSU.2.cells (by omega)
                  simp only [Option.some.injEq, Addr.mk.injEq, and_true] at e9
                  obtain ⟨rfl, rfl⟩ := e9
                  obtain ⟨_, _, _, _, _, _, e6⟩ := hcs bn (by omega)
                  have hlb := last_bs hbb
                  rw [← HBN.out] at hlb
                  rw [hlb] at hbt
                  obtain ⟨va, vn, vc, hva⟩ : ∃ va vn vc, Value.slice (bk b9 bn).ba (bk b9 bn).bn (bk b9 bn).bc = .slice va vn vc ∧ RunsIn U va vn vc X := ⟨_, _, _, rfl, hbt⟩
                  rw [hva.1] at e6
                  simp only [Nat.zero_add] at e6
                  have hvr := hva.2
                  have hk9 : bn + 1 ≤ k9 := hSU.2.le
                  have hk9b : k9 ≤ 9223372036854775807 := hSU.2.capb
                  have hvl := hvr.len
                  have hvp : 0 < vn := by have := HP0.out; omega
                  obtain ⟨vb, vo, rfl, hcv⟩ := hvr.cells hvp
                  have hvle := hvr.le
                  have hvbd := hvr.bound
                  have hvcb := hvr.capb
                  have HVL := hid hvl
                  have HCV := hid hcv
                  obtain ⟨a0, a1, a2, a3⟩ := HA.out.cells
                  rw [HU.out] at a0 a1 a2 a3 e6
                  clear hb hU hbU hSt hSU hbq hbb hbt hcs hlb hva hvr hvl hcv c0 c1 c2 c3 d0 d1 d2 d3 d4
                  have hx1 : (bn : Int) + 1 - 1 = bn := by omega
                  have hx2 : (bn : Int) < (bn : Int) + 1 := by omega
                  have hx3 : ¬ (bn : Int) + 1 = 0 := by omega
                  go_wp2
                  go_loopw [22, 23] (fun y p wr => ∃ j : Nat, y = .bool (begB X a j) ∧ p = .int .i64 j ∧ j ≤ vn ∧ Below U.heap.size U wr) (fun _ p _ => vn - (intOf p).toNat)
                  case atStart => exact ⟨0, rfl, rfl, by omega, by rw [HU.out]; exact Below.refl _ _⟩
                  case round =>
                    obtain ⟨j, rfl, rfl, hj, hbel⟩ := hrel
                    have HBE := hid hbel
                    by_cases hlt : j < vn
                    · have hlt' : (j : Int) < vn := by omega
                      have y1 := cell_later hbel (HCV.out j hlt).2
                      have hlo : ¬ rN X j < a := by have := HLO.out j (by have := HVL.out; omega); omega
                      have hst : begB X a (j + 1) = (begB X a j || (rN X j == a)) := rfl
                      have HST' := hid hst
                      clear hbel hst
                      cases hbg : begB X a j with
                      | true =>
                        rw [hbg] at HST'
                        have HS9 : Hid (begB X a (j + 1) = true) := hid (HST'.out.trans (by simp))
                        clear hbg
                        go_wp2
                        go_roundw
                        case rel => exact ⟨j + 1, by rw [HS9.out], by go_num, by omega, HBE.out⟩
                        case measure => simp [intOf]; omega
                      | false =>
                        rw [hbg] at HST'
                        have HS9 : Hid (begB X a (j + 1) = (rN X j == a)) := hid (HST'.out.trans (by simp))
                        clear hbg
                        go_wp2
                        go_roundw
                        case rel => exact ⟨j + 1, by rw [HS9.out], by go_num, by omega, HBE.out⟩
                        case measure => simp [intOf]; omega
                    · obtain rfl : j = vn := by omega
                      have hbv : begB X a j = true := by have := HBG.out; rwa [← HVL.out] at this
                      rw [hbv]
                      clear hbel
                      go_wp2_with fail
                      refine (askBegun_any wr).mono ?_
                      rintro e w9 ⟨rfl, hb⟩
                      have HB9 := hid (below_from (below_from HBU.out HBE.out) hb)
                      clear hb
                      go_wp2
                      go_ret
                      exact ⟨rfl, HB9.out⟩
                · have fp' : (placeR l b r).2 = false := by simpa using fp
                  have u8 : subE c n l b r = 8 := by
                    unfold subE at u2 ⊢
                    rw [if_pos g0] at u2 ⊢
                    by_cases m : 12 ≤ b.length ∨ 1048576 ≤ n
                    · rw [if_pos m] at u2; exact absurd rfl u2
                    · rw [if_neg m, if_neg fp]
                  rw [if_neg fp, fp'] at KS5
                  have KU5 := KUA.out
                  rw [u8] at KU5
                  replace KU5 := hid KU5
                  replace KS5 := hid KS5
                  clear u2 g0 fp fp' u8
                  go_wp2_with fail
                  refine (KS5.out).mono ?_
                  rintro e w5 ⟨rfl, hb⟩
                  have HB5 := hid (below_from HB3.out hb)
                  have HS5 := hid (HS3.out.later hb)
                  have HR5 := hid (HR3.out.later hb)
                  clear hb c0 c1 c2 c3 d0 d1 d2 d3 d4
                  obtain ⟨c0, c1, c2, c3⟩ := HS5.out.cells
                  obtain ⟨d0, d1, d2, d3, d4⟩ := HR5.out.cells
                  go_wp2_with fail
                  refine (KU5.out w5 HB5.out).mono ?_
                  rintro e w6 ⟨i1, i2, s1, n1, k1, s2, n2, k2, xx, rfl, hb⟩
                  obtain ⟨U, hU⟩ : ∃ U, U = w6.alloc (.cells #[.int .i64 i1, .int .i64 i2, .slice s1 n1 k1, .slice s2 n2 k2] 25) := ⟨_, rfl⟩
                  have hbU : Below w6.heap.size w6 U := by rw [hU]; exact (Below.refl _ _).alloc (Nat.le_refl _) _
                  have HBU := hid (below_from (below_from HB5.out hb) hbU)
                  have HU := hid hU
                  clear hb hU hbU c0 c1 c2 c3 d0 d1 d2 d3 d4
                  go_wp2_with fail
                  rw [← HU.out]
                  refine (askBegun_any U).mono ?_
                  rintro e w9 ⟨rfl, hb⟩
                  have HB9 := hid (below_from HBU.out hb)
                  clear hb
                  go_wp2
                  go_ret
                  exact ⟨rfl, HB9.out⟩
            · have KS5 := KSW.out w3 HB3.out g0
              have KU5 := KUA.out
              have eu : subE c n l b r = seekE c n l b r := if_neg g0
              rw [eu] at KU5
              obtain ⟨E, hE⟩ : ∃ E, seekE c n l b r = E := ⟨_, rfl⟩
              rw [hE] at KU5 KS5 g0
              have hne : (E != 0) = true := by simp [g0]
              have hee : (E == E) = true := by simp
              replace KU5 := hid KU5
              replace KS5 := hid KS5
              clear g0 eu hE
              go_wp2_with fail
              refine (KS5.out).mono ?_
              rintro e w5 ⟨rfl, hb⟩
              have HB5 := hid (below_from HB3.out hb)
              have HS5 := hid (HS3.out.later hb)
              have HR5 := hid (HR3.out.later hb)
              clear hb c0 c1 c2 c3 d0 d1 d2 d3 d4
              obtain ⟨c0, c1, c2, c3⟩ := HS5.out.cells
              obtain ⟨d0, d1, d2, d3, d4⟩ := HR5.out.cells
              go_wp2_with fail
              refine (KU5.out w5 HB5.out).mono ?_
              rintro e w6 ⟨i1, i2, s1, n1, k1, s2, n2, k2, xx, rfl, hb⟩
              obtain ⟨U, hU⟩ : ∃ U, U = w6.alloc (.cells #[.int .i64 i1, .int .i64 i2, .slice s1 n1 k1, .slice s2 n2 k2] 25) := ⟨_, rfl⟩
              have hbU : Below w6.heap.size w6 U := by rw [hU]; exact (Below.refl _ _).alloc (Nat.le_refl _) _
              have HBU := hid (below_from (below_from HB5.out hb) hbU)
              have HU := hid hU
              clear hb hU hbU c0 c1 c2 c3 d0 d1 d2 d3 d4
              go_wp2_with fail
              rw [← HU.out]
              refine (askBegun_any U).mono ?_
              rintro e w9 ⟨rfl, hb⟩
              have HB9 := hid (below_from HBU.out hb)
              clear hb
              go_wp2
              go_ret
              exact ⟨rfl, HB9.out⟩
        · clear h1 h2
          by_cases g0 : seekE c n l b r = 0
          · have KS5 := KSO.out w2 HB2.out g0
            by_cases u2 : subE c n l b r = 2
            · have KU5 := KUA.out
              rw [u2] at KU5
              obtain ⟨A0, hA0⟩ : ∃ A0, (if (placeR l b r).2 = true then lowAt (placeR l b r).1 (placeR l b r).1.length else 0) = A0 := ⟨_, rfl⟩
              rw [hA0] at KS5
              obtain ⟨F0, hF0⟩ : ∃ F0, (placeR l b r).2 = F0 := ⟨_, rfl⟩
              rw [hF0] at KS5
              replace KU5 := hid KU5
              replace KS5 := hid KS5
              clear u2 g0 hA0 hF0
              go_wp2_with fail
              refine (KS5.out).mono ?_
              rintro e w5 ⟨rfl, hb⟩
              have HB5 := hid (below_from HB2.out hb)
              have HS5 := hid (HS2.out.later hb)
              have HR5 := hid (HR2.out.later hb)
              clear hb c0 c1 c2 c3 d0 d1 d2 d3 d4
              obtain ⟨c0, c1, c2, c3⟩ := HS5.out.cells
              obtain ⟨d0, d1, d2, d3, d4⟩ := HR5.out.cells
              go_wp2_with fail
              refine (KU5.out w5 HB5.out).mono ?_
              rintro e w6 ⟨i1, i2, s1, n1, k1, s2, n2, k2, xx, rfl, hb⟩
              obtain ⟨U, hU⟩ : ∃ U, U = w6.alloc (.cells #[.int .i64 i1, .int .i64 i2, .slice s1 n1 k1, .slice s2 n2 k2] 25) := ⟨_, rfl⟩
              have hbU : Below w6.heap.size w6 U := by rw [hU]; exact (Below.refl _ _).alloc (Nat.le_refl _) _
              have HBU := hid (below_from (below_from HB5.out hb) hbU)
              have HU := hid hU
              clear hb hU hbU c0 c1 c2 c3 d0 d1 d2 d3 d4
              go_wp2_with fail
              rw [← HU.out]
              refine (askBegun_any U).mono ?_
              rintro e w9 ⟨rfl, hb⟩
              have HB9 := hid (below_from HBU.out hb)
              clear hb
              go_wp2
              go_ret
              exact ⟨rfl, HB9.out⟩
            · by_cases fp : (placeR l b r).2 = true
              · have u0 : subE c n l b r = 0 := by
                  unfold subE at u2 ⊢
                  rw [if_pos g0] at u2 ⊢
                  by_cases m : 12 ≤ b.length ∨ 1048576 ≤ n
                  · rw [if_pos m] at u2; exact absurd rfl u2
                  · rw [if_neg m, if_pos fp]
                have hp0 := place_some g0 fp
                have KU5 := hid fun X hX => KUO.out X hX u0
                have hb12 : bn < 12 := by have := (sub_ok u0).2.1; have := HBN.out; omega
                obtain ⟨X, hX⟩ : ∃ X, (placeR l b r).1 = X := ⟨_, rfl⟩
                rw [if_pos fp, fp, hX] at KS5
                rw [hX] at KU5 hp0
                obtain ⟨a, ha⟩ : ∃ a, lowAt X X.length = a := ⟨_, rfl⟩
                rw [ha] at KS5
                replace KS5 := hid KS5
                have HLO := hid fun j (hj : j < X.length) => (low_le X hj : lowAt X X.length ≤ rN X j)
                rw [ha] at HLO
                have HBG : Hid (begB X a X.length = true) := by
                  obtain ⟨j, h1, h2⟩ := low_is X hp0
                  exact hid (begB_true h1 (by rw [← h2, ha]))
                have HP0 := hid hp0
                clear u2 g0 fp u0 hX ha hp0
                go_wp2_with fail
                refine (KS5.out).mono ?_
                rintro e w5 ⟨rfl, hb⟩
                have HB5 := hid (below_from HB2.out hb)
                have HS5 := hid (HS2.out.later hb)
                have HR5 := hid (HR2.out.later hb)
                clear hb c0 c1 c2 c3 d0 d1 d2 d3 d4
                obtain ⟨c0, c1, c2, c3⟩ := HS5.out.cells
                obtain ⟨d0, d1, d2, d3, d4⟩ := HR5.out.cells
                go_wp2_with fail
                refine (KU5.out w5 HB5.out).mono ?_
                rintro e w6 ⟨g, k1, l4, g9, k9, b9, rfl, hSt, hbq, hbb, hb⟩
                obtain ⟨U, hU⟩ : ∃ U, U = w6.alloc (.cells #[.int .i64 c, .int .i64 (n + 1), .slice (some ⟨g, 0, none⟩) tn k1, .slice (some ⟨g9, 0, none⟩) (bn + 1) k9] 25) := ⟨_, rfl⟩
                have hbU : Below w6.heap.size w6 U := by rw [hU]; exact (Below.refl _ _).alloc (Nat.le_refl _) _
                have HBU := hid (below_from (below_from HB5.out hb) hbU)
                have HU := hid hU
                obtain ⟨A, hA⟩ : ∃ A, w6.heap.size = A := ⟨_, rfl⟩
                have HA : Hid (StBox U A (.int .i64 c) (.int .i64 (n + 1)) (.slice (some ⟨g, 0, none⟩) tn k1) (.slice (some ⟨g9, 0, none⟩) (bn + 1) k9)) := hid (by rw [hU, ← hA]; exact StBox.new w6 _ _ _ _)
                have hSU := hSt.later hbU
                have hbt := hSU.2.bites bn (by omega)
                obtain ⟨bb, bo, e9, hcs⟩ := hSU.2.cells (by omega)
                simp only [Option.some.injEq, Addr.mk.injEq, and_true] at e9
                obtain ⟨rfl, rfl⟩ := e9
                obtain ⟨_, _, _, _, _, _, e6⟩ := hcs bn (by omega)
                have hlb := last_bs hbb
                rw [← HBN.out] at hlb
                rw [hlb] at hbt
                obtain ⟨va, vn, vc, hva⟩ : ∃ va vn vc, Value.slice (bk b9 bn).ba (bk b9 bn).bn (bk b9 bn).bc = .slice va vn vc ∧ RunsIn U va vn vc X := ⟨_, _, _, rfl, hbt⟩
                rw [hva.1] at e6
                simp only [Nat.zero_add] at e6
                have hvr := hva.2
                have hk9 : bn + 1 ≤ k9 := hSU.2.le
                have hk9b : k9 ≤ 9223372036854775807 := hSU.2.capb
                have hvl := hvr.len
                have hvp : 0 < vn := by have := HP0.out; omega
                obtain ⟨vb, vo, rfl, hcv⟩ := hvr.cells hvp
                have hvle := hvr.le
                have hvbd := hvr.bound
                have hvcb := hvr.capb
                have HVL := hid hvl
                have HCV := hid hcv
                obtain ⟨a0, a1, a2, a3⟩ := HA.out.cells
                rw [HU.out] at a0 a1 a2 a3 e6
                clear hb hU hbU hSt hSU hbq hbb hbt hcs hlb hva hvr hvl hcv c0 c1 c2 c3 d0 d1 d2 d3 d4
                have hx1 : (bn : Int) + 1 - 1 = bn := by omega
                have hx2 : (bn : Int) < (bn : Int) + 1 := by omega
                have hx3 : ¬ (bn : Int) + 1 = 0 := by omega
                go_wp2
                go_loopw [22, 23] (fun y p wr => ∃ j : Nat, y = .bool (begB X a j) ∧ p = .int .i64 j ∧ j ≤ vn ∧ Below U.heap.size U wr) (fun _ p _ => vn - (intOf p).toNat)
                case atStart => exact ⟨0, rfl, rfl, by omega, by rw [HU.out]; exact Below.refl _ _⟩
                case round =>
                  obtain ⟨j, rfl, rfl, hj, hbel⟩ := hrel
                  have HBE := hid hbel
                  by_cases hlt : j < vn
                  · have hlt' : (j : Int) < vn := by omega
                    have y1 := cell_later hbel (HCV.out j hlt).2
                    have hlo : ¬ rN X j < a := by have := HLO.out j (by have := HVL.out; omega); omega
                    have hst : begB X a (j + 1) = (begB X a j || (rN X j == a)) := rfl
                    have HST' := hid hst
                    clear hbel hst
                    cases hbg : begB X a j with
                    | true =>
                      rw [hbg] at HST'
                      have HS9 : Hid (begB X a (j + 1) = true) := hid (HST'.out.trans (by simp))
                      clear hbg
                      go_wp2
                      go_roundw
                      case rel => exact ⟨j + 1, by rw [HS9.out], by go_num, by omega, HBE.out⟩
                      case measure => simp [intOf]; omega
                    | false =>
                      rw [hbg] at HST'
                      have HS9 : Hid (begB X a (j + 1) = (rN X j == a)) := hid (HST'.out.trans (by simp))
                      clear hbg
                      go_wp2
                      go_roundw
                      case rel => exact ⟨j + 1, by rw [HS9.out], by go_num, by omega, HBE.out⟩
                      case measure => simp [intOf]; omega
                  · obtain rfl : j = vn := by omega
                    have hbv : begB X a j = true := by have := HBG.out; rwa [← HVL.out] at this
                    rw [hbv]
                    clear hbel
                    go_wp2_with fail
                    refine (askBegun_any wr).mono ?_
                    rintro e w9 ⟨rfl, hb⟩
                    have HB9 := hid (below_from (below_from HBU.out HBE.out) hb)
                    clear hb
                    go_wp2
                    go_ret
                    exact ⟨rfl, HB9.out⟩
              · have fp' : (placeR l b r).2 = false := by simpa using fp
                have u8 : subE c n l b r = 8 := by
                  unfold subE at u2 ⊢
                  rw [if_pos g0] at u2 ⊢
                  by_cases m : 12 ≤ b.length ∨ 1048576 ≤ n
                  · rw [if_pos m] at u2; exact absurd rfl u2
                  · rw [if_neg m, if_neg fp]
                rw [if_neg fp, fp'] at KS5
                have KU5 := KUA.out
                rw [u8] at KU5
                replace KU5 := hid KU5
                replace KS5 := hid KS5
                clear u2 g0 fp fp' u8
                go_wp2_with fail
                refine (KS5.out).mono ?_
                rintro e w5 ⟨rfl, hb⟩
                have HB5 := hid (below_from HB2.out hb)
                have HS5 := hid (HS2.out.later hb)
                have HR5 := hid (HR2.out.later hb)
                clear hb c0 c1 c2 c3 d0 d1 d2 d3 d4
                obtain ⟨c0, c1, c2, c3⟩ := HS5.out.cells
                obtain ⟨d0, d1, d2, d3, d4⟩ := HR5.out.cells
                go_wp2_with fail
                refine (KU5.out w5 HB5.out).mono ?_
                rintro e w6 ⟨i1, i2, s1, n1, k1, s2, n2, k2, xx, rfl, hb⟩
                obtain ⟨U, hU⟩ : ∃ U, U = w6.alloc (.cells #[.int .i64 i1, .int .i64 i2, .slice s1 n1 k1, .slice s2 n2 k2] 25) := ⟨_, rfl⟩
                have hbU : Below w6.heap.size w6 U := by rw [hU]; exact (Below.refl _ _).alloc (Nat.le_refl _) _
                have HBU := hid (below_from (below_from HB5.out hb) hbU)
                have HU := hid hU
                clear hb hU hbU c0 c1 c2 c3 d0 d1 d2 d3 d4
                go_wp2_with fail
                rw [← HU.out]
                refine (askBegun_any U).mono ?_
                rintro e w9 ⟨rfl, hb⟩
                have HB9 := hid (below_from HBU.out hb)
                clear hb
                go_wp2
                go_ret
                exact ⟨rfl, HB9.out⟩
          · have KS5 := KSW.out w2 HB2.out g0
            have KU5 := KUA.out
            have eu : subE c n l b r = seekE c n l b r := if_neg g0
            rw [eu] at KU5
            obtain ⟨E, hE⟩ : ∃ E, seekE c n l b r = E := ⟨_, rfl⟩
            rw [hE] at KU5 KS5 g0
            have hne : (E != 0) = true := by simp [g0]
            have hee : (E == E) = true := by simp
            replace KU5 := hid KU5
            replace KS5 := hid KS5
            clear g0 eu hE
            go_wp2_with fail
            refine (KS5.out).mono ?_
            rintro e w5 ⟨rfl, hb⟩
            have HB5 := hid (below_from HB2.out hb)
            have HS5 := hid (HS2.out.later hb)
            have HR5 := hid (HR2.out.later hb)
            clear hb c0 c1 c2 c3 d0 d1 d2 d3 d4
            obtain ⟨c0, c1, c2, c3⟩ := HS5.out.cells
            obtain ⟨d0, d1, d2, d3, d4⟩ := HR5.out.cells
            go_wp2_with fail
            refine (KU5.out w5 HB5.out).mono ?_
            rintro e w6 ⟨i1, i2, s1, n1, k1, s2, n2, k2, xx, rfl, hb⟩
            obtain ⟨U, hU⟩ : ∃ U, U = w6.alloc (.cells #[.int .i64 i1, .int .i64 i2, .slice s1 n1 k1, .slice s2 n2 k2] 25) := ⟨_, rfl⟩
            have hbU : Below w6.heap.size w6 U := by rw [hU]; exact (Below.refl _ _).alloc (Nat.le_refl _) _
            have HBU := hid (below_from (below_from HB5.out hb) hbU)
            have HU := hid hU
            clear hb hU hbU c0 c1 c2 c3 d0 d1 d2 d3 d4
            go_wp2_with fail
            rw [← HU.out]
            refine (askBegun_any U).mono ?_
            rintro e w9 ⟨rfl, hb⟩
            have HB9 := hid (below_from HBU.out hb)
            clear hb
            go_wp2
            go_ret
            exact ⟨rfl, HB9.out⟩
      · clear h1 h2
        by_cases g0 : seekE c n l b r = 0
        · have KS5 := KSO.out w2 HB2.out g0
          by_cases u2 : subE c n l b r = 2
          · have KU5 := KUA.out
            rw [u2] at KU5
            obtain ⟨A0, hA0⟩ : ∃ A0, (if (placeR l b r).2 = true then lowAt (placeR l b r).1 (placeR l b r).1.length else 0) = A0 := ⟨_, rfl⟩
            rw [hA0] at KS5
            obtain ⟨F0, hF0⟩ : ∃ F0, (placeR l b r).2 = F0 := ⟨_, rfl⟩
            rw [hF0] at KS5
            replace KU5 := hid KU5
            replace KS5 := hid KS5
            clear u2 g0 hA0 hF0
            go_wp2_with fail
            refine (KS5.out).mono ?_
            rintro e w5 ⟨rfl, hb⟩
            have HB5 := hid (below_from HB2.out hb)
            have HS5 := hid (HS2.out.later hb)
            have HR5 := hid (HR2.out.later hb)
            clear hb c0 c1 c2 c3 d0 d1 d2 d3 d4
            obtain ⟨c0, c1, c2, c3⟩ := HS5.out.cells
            obtain ⟨d0, d1, d2, d3, d4⟩ := HR5.out.cells
            go_wp2_with fail
            refine (KU5.out w5 HB5.out).mono ?_
            rintro e w6 ⟨i1, i2, s1, n1, k1, s2, n2, k2, xx, rfl, hb⟩
            obtain ⟨U, hU⟩ : ∃ U, U = w6.alloc (.cells #[.int .i64 i1, .int .i64 i2, .slice s1 n1 k1, .slice s2 n2 k2] 25) := ⟨_, rfl⟩
            have hbU : Below w6.heap.size w6 U := by rw [hU]; exact (Below.refl _ _).alloc (Nat.le_refl _) _
            have HBU := hid (below_from (below_from HB5.out hb) hbU)
            have HU := hid hU
            clear hb hU hbU c0 c1 c2 c3 d0 d1 d2 d3 d4
            go_wp2_with fail
            rw [← HU.out]
            refine (askBegun_any U).mono ?_
            rintro e w9 ⟨rfl, hb⟩
            have HB9 := hid (below_from HBU.out hb)
            clear hb
            go_wp2
            go_ret
            exact ⟨rfl, HB9.out⟩
          · by_cases fp : (placeR l b r).2 = true
            · have u0 : subE c n l b r = 0 := by
                unfold subE at u2 ⊢
                rw [if_pos g0] at u2 ⊢
                by_cases m : 12 ≤ b.length ∨ 1048576 ≤ n
                · rw [if_pos m] at u2; exact absurd rfl u2
                · rw [if_neg m, if_pos fp]
              have hp0 := place_some g0 fp
              have KU5 := hid fun X hX => KUO.out X hX u0
              have hb12 : bn < 12 := by have := (sub_ok u0).2.1; have := HBN.out; omega
              obtain ⟨X, hX⟩ : ∃ X, (placeR l b r).1 = X := ⟨_, rfl⟩
              rw [if_pos fp, fp, hX] at KS5
              rw [hX] at KU5 hp0
              obtain ⟨a, ha⟩ : ∃ a, lowAt X X.length = a := ⟨_, rfl⟩
              rw [ha] at KS5
              replace KS5 := hid KS5
              have HLO := hid fun j (hj : j < X.length) => (low_le X hj : lowAt X X.length ≤ rN X j)
              rw [ha] at HLO
              have HBG : Hid (begB X a X.length = true) := by
                obtain ⟨j, h1, h2⟩ := low_is X hp0
                exact hid (begB_true h1 (by rw [← h2, ha]))
              have HP0 := hid hp0
              clear u2 g0 fp u0 hX ha hp0
              go_wp2_with fail
              refine (KS5.out).mono ?_
              rintro e w5 ⟨rfl, hb⟩
              have HB5 := hid (below_from HB2.out hb)
              have HS5 := hid (HS2.out.later hb)
              have HR5 := hid (HR2.out.later hb)
              clear hb c0 c1 c2 c3 d0 d1 d2 d3 d4
              obtain ⟨c0, c1, c2, c3⟩ := HS5.out.cells
              obtain ⟨d0, d1, d2, d3, d4⟩ := HR5.out.cells
              go_wp2_with fail
              refine (KU5.out w5 HB5.out).mono ?_
              rintro e w6 ⟨g, k1, l4, g9, k9, b9, rfl, hSt, hbq, hbb, hb⟩
              obtain ⟨U, hU⟩ : ∃ U, U = w6.alloc (.cells #[.int .i64 c, .int .i64 (n + 1), .slice (some ⟨g, 0, none⟩) tn k1, .slice (some ⟨g9, 0, none⟩) (bn + 1) k9] 25) := ⟨_, rfl⟩
              have hbU : Below w6.heap.size w6 U := by rw [hU]; exact (Below.refl _ _).alloc (Nat.le_refl _) _
              have HBU := hid (below_from (below_from HB5.out hb) hbU)
              have HU := hid hU
              obtain ⟨A, hA⟩ : ∃ A, w6.heap.size = A := ⟨_, rfl⟩
              have HA : Hid (StBox U A (.int .i64 c) (.int .i64 (n + 1)) (.slice (some ⟨g, 0, none⟩) tn k1) (.slice (some ⟨g9, 0, none⟩) (bn + 1) k9)) := hid (by rw [hU, ← hA]; exact StBox.new w6 _ _ _ _)
              have hSU := hSt.later hbU
              have hbt := hSU.2.bites bn (by omega)
              obtain ⟨bb, bo, e9, hcs⟩ := hSU.2.cells (by omega)
              simp only [Option.some.injEq, Addr.mk.injEq, and_true] at e9
              obtain ⟨rfl, rfl⟩ := e9
              obtain ⟨_, _, _, _, _, _, e6⟩ := hcs bn (by omega)
              have hlb := last_bs hbb
              rw [← HBN.out] at hlb
              rw [hlb] at hbt
              obtain ⟨va, vn, vc, hva⟩ : ∃ va vn vc, Value.slice (bk b9 bn).ba (bk b9 bn).bn (bk b9 bn).bc = .slice va vn vc ∧ RunsIn U va vn vc X := ⟨_, _, _, rfl, hbt⟩
              rw [hva.1] at e6
              simp only [Nat.zero_add] at e6
              have hvr := hva.2
              have hk9 : bn + 1 ≤ k9 := hSU.2.le
              have hk9b : k9 ≤ 9223372036854775807 := hSU.2.capb
              have hvl := hvr.len
              have hvp : 0 < vn := by have := HP0.out; omega
              obtain ⟨vb, vo, rfl, hcv⟩ := hvr.cells hvp
              have hvle := hvr.le
              have hvbd := hvr.bound
              have hvcb := hvr.capb
              have HVL := hid hvl
              have HCV := hid hcv
              obtain ⟨a0, a1, a2, a3⟩ := HA.out.cells
              rw [HU.out] at a0 a1 a2 a3 e6
              clear hb hU hbU hSt hSU hbq hbb hbt hcs hlb hva hvr hvl hcv c0 c1 c2 c3 d0 d1 d2 d3 d4
              have hx1 : (bn : Int) + 1 - 1 = bn := by omega
              have hx2 : (bn : Int) < (bn : Int) + 1 := by omega
              have hx3 : ¬ (bn : Int) + 1 = 0 := by omega
              go_wp2
              go_loopw [22, 23] (fun y p wr => ∃ j : Nat, y = .bool (begB X a j) ∧ p = .int .i64 j ∧ j ≤ vn ∧ Below U.heap.size U wr) (fun _ p _ => vn - (intOf p).toNat)
              case atStart => exact ⟨0, rfl, rfl, by omega, by rw [HU.out]; exact Below.refl _ _⟩
              case round =>
                obtain ⟨j, rfl, rfl, hj, hbel⟩ := hrel
                have HBE := hid hbel
                by_cases hlt : j < vn
                · have hlt' : (j : Int) < vn := by omega
                  have y1 := cell_later hbel (HCV.out j hlt).2
                  have hlo : ¬ rN X j < a := by have := HLO.out j (by have := HVL.out; omega); omega
                  have hst : begB X a (j + 1) = (begB X a j || (rN X j == a)) := rfl
                  have HST' := hid hst
                  clear hbel hst
                  cases hbg : begB X a j with
                  | true =>
                    rw [hbg] at HST'
                    have HS9 : Hid (begB X a (j + 1) = true) := hid (HST'.out.trans (by simp))
                    clear hbg
                    go_wp2
                    go_roundw
                    case rel => exact ⟨j + 1, by rw [HS9.out], by go_num, by omega, HBE.out⟩
                    case measure => simp [intOf]; omega
                  | false =>
                    rw [hbg] at HST'
                    have HS9 : Hid (begB X a (j + 1) = (rN X j == a)) := hid (HST'.out.trans (by simp))
                    clear hbg
                    go_wp2
                    go_roundw
                    case rel => exact ⟨j + 1, by rw [HS9.out], by go_num, by omega, HBE.out⟩
                    case measure => simp [intOf]; omega
                · obtain rfl : j = vn := by omega
                  have hbv : begB X a j = true := by have := HBG.out; rwa [← HVL.out] at this
                  rw [hbv]
                  clear hbel
                  go_wp2_with fail
                  refine (askBegun_any wr).mono ?_
                  rintro e w9 ⟨rfl, hb⟩
                  have HB9 := hid (below_from (below_from HBU.out HBE.out) hb)
                  clear hb
                  go_wp2
                  go_ret
                  exact ⟨rfl, HB9.out⟩
            · have fp' : (placeR l b r).2 = false := by simpa using fp
              have u8 : subE c n l b r = 8 := by
                unfold subE at u2 ⊢
                rw [if_pos g0] at u2 ⊢
                by_cases m : 12 ≤ b.length ∨ 1048576 ≤ n
                · rw [if_pos m] at u2; exact absurd rfl u2
                · rw [if_neg m, if_neg fp]
              rw [if_neg fp, fp'] at KS5
              have KU5 := KUA.out
              rw [u8] at KU5
              replace KU5 := hid KU5
              replace KS5 := hid KS5
              clear u2 g0 fp fp' u8
              go_wp2_with fail
              refine (KS5.out).mono ?_
              rintro e w5 ⟨rfl, hb⟩
              have HB5 := hid (below_from HB2.out hb)
              have HS5 := hid (HS2.out.later hb)
              have HR5 := hid (HR2.out.later hb)
              clear hb c0 c1 c2 c3 d0 d1 d2 d3 d4
              obtain ⟨c0, c1, c2, c3⟩ := HS5.out.cells
              obtain ⟨d0, d1, d2, d3, d4⟩ := HR5.out.cells
              go_wp2_with fail
              refine (KU5.out w5 HB5.out).mono ?_
              rintro e w6 ⟨i1, i2, s1, n1, k1, s2, n2, k2, xx, rfl, hb⟩
              obtain ⟨U, hU⟩ : ∃ U, U = w6.alloc (.cells #[.int .i64 i1, .int .i64 i2, .slice s1 n1 k1, .slice s2 n2 k2] 25) := ⟨_, rfl⟩
              have hbU : Below w6.heap.size w6 U := by rw [hU]; exact (Below.refl _ _).alloc (Nat.le_refl _) _
              have HBU := hid (below_from (below_from HB5.out hb) hbU)
              have HU := hid hU
              clear hb hU hbU c0 c1 c2 c3 d0 d1 d2 d3 d4
              go_wp2_with fail
              rw [← HU.out]
              refine (askBegun_any U).mono ?_
              rintro e w9 ⟨rfl, hb⟩
              have HB9 := hid (below_from HBU.out hb)
              clear hb
              go_wp2
              go_ret
              exact ⟨rfl, HB9.out⟩
        · have KS5 := KSW.out w2 HB2.out g0
          have KU5 := KUA.out
          have eu : subE c n l b r = seekE c n l b r := if_neg g0
          rw [eu] at KU5
          obtain ⟨E, hE⟩ : ∃ E, seekE c n l b r = E := ⟨_, rfl⟩
          rw [hE] at KU5 KS5 g0
          have hne : (E != 0) = true := by simp [g0]
          have hee : (E == E) = true := by simp
          replace KU5 := hid KU5
          replace KS5 := hid KS5
          clear g0 eu hE
          go_wp2_with fail
          refine (KS5.out).mono ?_
          rintro e w5 ⟨rfl, hb⟩
          have HB5 := hid (below_from HB2.out hb)
          have HS5 := hid (HS2.out.later hb)
          have HR5 := hid (HR2.out.later hb)
          clear hb c0 c1 c2 c3 d0 d1 d2 d3 d4
          obtain ⟨c0, c1, c2, c3⟩ := HS5.out.cells
          obtain ⟨d0, d1, d2, d3, d4⟩ := HR5.out.cells
          go_wp2_with fail
          refine (KU5.out w5 HB5.out).mono ?_
          rintro e w6 ⟨i1, i2, s1, n1, k1, s2, n2, k2, xx, rfl, hb⟩
          obtain ⟨U, hU⟩ : ∃ U, U = w6.alloc (.cells #[.int .i64 i1, .int .i64 i2, .slice s1 n1 k1, .slice s2 n2 k2] 25) := ⟨_, rfl⟩
          have hbU : Below w6.heap.size w6 U := by rw [hU]; exact (Below.refl _ _).alloc (Nat.le_refl _) _
          have HBU := hid (below_from (below_from HB5.out hb) hbU)
          have HU := hid hU
          clear hb hU hbU c0 c1 c2 c3 d0 d1 d2 d3 d4
          go_wp2_with fail
          rw [← HU.out]
          refine (askBegun_any U).mono ?_
          rintro e w9 ⟨rfl, hb⟩
          have HB9 := hid (below_from HBU.out hb)
          clear hb
          go_wp2
          go_ret
          exact ⟨rfl, HB9.out⟩
    · have h2' : (e2 == 0) = false := by simp [h2]
      clear h1 h2
      by_cases g0 : seekE c n l b r = 0
      · have KS5 := KSO.out w2 HB2.out g0
        by_cases u2 : subE c n l b r = 2
        · have KU5 := KUA.out
          rw [u2] at KU5
          obtain ⟨A0, hA0⟩ : ∃ A0, (if (placeR l b r).2 = true then lowAt (placeR l b r).1 (placeR l b r).1.length else 0) = A0 := ⟨_, rfl⟩
          rw [hA0] at KS5
          obtain ⟨F0, hF0⟩ : ∃ F0, (placeR l b r).2 = F0 := ⟨_, rfl⟩
          rw [hF0] at KS5
          replace KU5 := hid KU5
          replace KS5 := hid KS5
          clear u2 g0 hA0 hF0
          go_wp2_with fail
          refine (KS5.out).mono ?_
          rintro e w5 ⟨rfl, hb⟩
          have HB5 := hid (below_from HB2.out hb)
          have HS5 := hid (HS2.out.later hb)
          have HR5 := hid (HR2.out.later hb)
          clear hb c0 c1 c2 c3 d0 d1 d2 d3 d4
          obtain ⟨c0, c1, c2, c3⟩ := HS5.out.cells
          obtain ⟨d0, d1, d2, d3, d4⟩ := HR5.out.cells
          go_wp2_with fail
          refine (KU5.out w5 HB5.out).mono ?_
          rintro e w6 ⟨i1, i2, s1, n1, k1, s2, n2, k2, xx, rfl, hb⟩
          obtain ⟨U, hU⟩ : ∃ U, U = w6.alloc (.cells #[.int .i64 i1, .int .i64 i2, .slice s1 n1 k1, .slice s2 n2 k2] 25) := ⟨_, rfl⟩
          have hbU : Below w6.heap.size w6 U := by rw [hU]; exact (Below.refl _ _).alloc (Nat.le_refl _) _
          have HBU := hid (below_from (below_from HB5.out hb) hbU)
          have HU := hid hU
          clear hb hU hbU c0 c1 c2 c3 d0 d1 d2 d3 d4
          go_wp2_with fail
          rw [← HU.out]
          refine (askBegun_any U).mono ?_
          rintro e w9 ⟨rfl, hb⟩
          have HB9 := hid (below_from HBU.out hb)
          clear hb
          go_wp2
          go_ret
          exact ⟨rfl, HB9.out⟩
        · by_cases fp : (placeR l b r).2 = true
          · have u0 : subE c n l b r = 0 := by
              unfold subE at u2 ⊢
              rw [if_pos g0] at u2 ⊢
              by_cases m : 12 ≤ b.length ∨ 1048576 ≤ n
              · rw [if_pos m] at u2; exact absurd rfl u2
              · rw [if_neg m, if_pos fp]
            have hp0 := place_some g0 fp
            have KU5 := hid fun X hX => KUO.out X hX u0
            have hb12 : bn < 12 := by have := (sub_ok u0).2.1; have := HBN.out; omega
            obtain ⟨X, hX⟩ : ∃ X, (placeR l b r).1 = X := ⟨_, rfl⟩
            rw [if_pos fp, fp, hX] at KS5
            rw [hX] at KU5 hp0
            obtain ⟨a, ha⟩ : ∃ a, lowAt X X.length = a := ⟨_, rfl⟩
            rw [ha] at KS5
            replace KS5 := hid KS5
            have HLO := hid fun j (hj : j < X.length) => (low_le X hj : lowAt X X.length ≤ rN X j)
            rw [ha] at HLO
            have HBG : Hid (begB X a X.length = true) := by
              obtain ⟨j, h1, h2⟩ := low_is X hp0
              exact hid (begB_true h1 (by rw [← h2, ha]))
            have HP0 := hid hp0
            clear u2 g0 fp u0 hX ha hp0
            go_wp2_with fail
            refine (KS5.out).mono ?_
            rintro e w5 ⟨rfl, hb⟩
            have HB5 := hid (below_from HB2.out hb)
            have HS5 := hid (HS2.out.later hb)
            have HR5 := hid (HR2.out.later hb)
            clear hb c0 c1 c2 c3 d0 d1 d2 d3 d4
            obtain ⟨c0, c1, c2, c3⟩ := HS5.out.cells
            obtain ⟨d0, d1, d2, d3, d4⟩ := HR5.out.cells
            go_wp2_with fail
            refine (KU5.out w5 HB5.out).mono ?_
            rintro e w6 ⟨g, k1, l4, g9, k9, b9, rfl, hSt, hbq, hbb, hb⟩
            obtain ⟨U, hU⟩ : ∃ U, U = w6.alloc (.cells #[.int .i64 c, .int .i64 (n + 1), .slice (some ⟨g, 0, none⟩) tn k1, .slice (some ⟨g9, 0, none⟩) (bn + 1) k9] 25) := ⟨_, rfl⟩
            have hbU : Below w6.heap.size w6 U := by rw [hU]; exact (Below.refl _ _).alloc (Nat.le_refl _) _
            have HBU := hid (below_from (below_from HB5.out hb) hbU)
            have HU := hid hU
            obtain ⟨A, hA⟩ : ∃ A, w6.heap.size = A := ⟨_, rfl⟩
            have HA : Hid (StBox U A (.int .i64 c) (.int .i64 (n + 1)) (.slice (some ⟨g, 0, none⟩) tn k1) (.slice (some ⟨g9, 0, none⟩) (bn + 1) k9)) := hid (by rw [hU, ← hA]; exact StBox.new w6 _ _ _ _)
            have hSU := hSt.later hbU
            have hbt := hSU.2.bites bn (by omega)
            obtain ⟨bb, bo, e9, hcs⟩ := hSU.2.cells (by omega)
            simp only [Option.some.injEq, Addr.mk.injEq, and_true] at e9
            obtain ⟨rfl, rfl⟩ := e9
            obtain ⟨_, _, _, _, _, _, e6⟩ := hcs bn (by omega)
            have hlb := last_bs hbb
            rw [← HBN.out] at hlb
            rw [hlb] at hbt
            obtain ⟨va, vn, vc, hva⟩ : ∃ va vn vc, Value.slice (bk b9 bn).ba (bk b9 bn).bn (bk b9 bn).bc = .slice va vn vc ∧ RunsIn U va vn vc X := ⟨_, _, _, rfl, hbt⟩
            rw [hva.1] at e6
            simp only [Nat.zero_add] at e6
            have hvr := hva.2
            have hk9 : bn + 1 ≤ k9 := hSU.2.le
            have hk9b : k9 ≤ 9223372036854775807 := hSU.2.capb
            have hvl := hvr.len
            have hvp : 0 < vn := by have := HP0.out; omega
            obtain ⟨vb, vo, rfl, hcv⟩ := hvr.cells hvp
            have hvle := hvr.le
            have hvbd := hvr.bound
            have hvcb := hvr.capb
            have HVL := hid hvl
            have HCV := hid hcv
            obtain ⟨a0, a1, a2, a3⟩ := HA.out.cells
            rw [HU.out] at a0 a1 a2 a3 e6
            clear hb hU hbU hSt hSU hbq hbb hbt hcs hlb hva hvr hvl hcv c0 c1 c2 c3 d0 d1 d2 d3 d4
            have hx1 : (bn : Int) + 1 - 1 = bn := by omega
            have hx2 : (bn : Int) < (bn : Int) + 1 := by omega
            have hx3 : ¬ (bn : Int) + 1 = 0 := by omega
            go_wp2
            go_loopw [22, 23] (fun y p wr => ∃ j : Nat, y = .bool (begB X a j) ∧ p = .int .i64 j ∧ j ≤ vn ∧ Below U.heap.size U wr) (fun _ p _ => vn - (intOf p).toNat)
            case atStart => exact ⟨0, rfl, rfl, by omega, by rw [HU.out]; exact Below.refl _ _⟩
            case round =>
              obtain ⟨j, rfl, rfl, hj, hbel⟩ := hrel
              have HBE := hid hbel
              by_cases hlt : j < vn
              · have hlt' : (j : Int) < vn := by omega
                have y1 := cell_later hbel (HCV.out j hlt).2
                have hlo : ¬ rN X j < a := by have := HLO.out j (by have := HVL.out; omega); omega
                have hst : begB X a (j + 1) = (begB X a j || (rN X j == a)) := rfl
                have HST' := hid hst
                clear hbel hst
                cases hbg : begB X a j with
                | true =>
                  rw [hbg] at HST'
                  have HS9 : Hid (begB X a (j + 1) = true) := hid (HST'.out.trans (by simp))
                  clear hbg
                  go_wp2
                  go_roundw
                  case rel => exact ⟨j + 1, by rw [HS9.out], by go_num, by omega, HBE.out⟩
                  case measure => simp [intOf]; omega
                | false =>
                  rw [hbg] at HST'
                  have HS9 : Hid (begB X a (j + 1) = (rN X j == a)) := hid (HST'.out.trans (by simp))
                  clear hbg
                  go_wp2
                  go_roundw
                  case rel => exact ⟨j + 1, by rw [HS9.out], by go_num, by omega, HBE.out⟩
                  case measure => simp [intOf]; omega
              · obtain rfl : j = vn := by omega
                have hbv : begB X a j = true := by have := HBG.out; rwa [← HVL.out] at this
                rw [hbv]
                clear hbel
                go_wp2_with fail
                refine (askBegun_any wr).mono ?_
                rintro e w9 ⟨rfl, hb⟩
                have HB9 := hid (below_from (below_from HBU.out HBE.out) hb)
                clear hb
                go_wp2
                go_ret
                exact ⟨rfl, HB9.out⟩
          · have fp' : (placeR l b r).2 = false := by simpa using fp
            have u8 : subE c n l b r = 8 := by
              unfold subE at u2 ⊢
              rw [if_pos g0] at u2 ⊢
              by_cases m : 12 ≤ b.length ∨ 1048576 ≤ n
              · rw [if_pos m] at u2; exact absurd rfl u2
              · rw [if_neg m, if_neg fp]
            rw [if_neg fp, fp'] at KS5
            have KU5 := KUA.out
            rw [u8] at KU5
            replace KU5 := hid KU5
            replace KS5 := hid KS5
            clear u2 g0 fp fp' u8
            go_wp2_with fail
            refine (KS5.out).mono ?_
            rintro e w5 ⟨rfl, hb⟩
            have HB5 := hid (below_from HB2.out hb)
            have HS5 := hid (HS2.out.later hb)
            have HR5 := hid (HR2.out.later hb)
            clear hb c0 c1 c2 c3 d0 d1 d2 d3 d4
            obtain ⟨c0, c1, c2, c3⟩ := HS5.out.cells
            obtain ⟨d0, d1, d2, d3, d4⟩ := HR5.out.cells
            go_wp2_with fail
            refine (KU5.out w5 HB5.out).mono ?_
            rintro e w6 ⟨i1, i2, s1, n1, k1, s2, n2, k2, xx, rfl, hb⟩
            obtain ⟨U, hU⟩ : ∃ U, U = w6.alloc (.cells #[.int .i64 i1, .int .i64 i2, .slice s1 n1 k1, .slice s2 n2 k2] 25) := ⟨_, rfl⟩
            have hbU : Below w6.heap.size w6 U := by rw [hU]; exact (Below.refl _ _).alloc (Nat.le_refl _) _
            have HBU := hid (below_from (below_from HB5.out hb) hbU)
            have HU := hid hU
            clear hb hU hbU c0 c1 c2 c3 d0 d1 d2 d3 d4
            go_wp2_with fail
            rw [← HU.out]
            refine (askBegun_any U).mono ?_
            rintro e w9 ⟨rfl, hb⟩
            have HB9 := hid (below_from HBU.out hb)
            clear hb
            go_wp2
            go_ret
            exact ⟨rfl, HB9.out⟩
      · have KS5 := KSW.out w2 HB2.out g0
        have KU5 := KUA.out
        have eu : subE c n l b r = seekE c n l b r := if_neg g0
        rw [eu] at KU5
        obtain ⟨E, hE⟩ : ∃ E, seekE c n l b r = E := ⟨_, rfl⟩
        rw [hE] at KU5 KS5 g0
        have hne : (E != 0) = true := by simp [g0]
        have hee : (E == E) = true := by simp
        replace KU5 := hid KU5
        replace KS5 := hid KS5
        clear g0 eu hE
        go_wp2_with fail
        refine (KS5.out).mono ?_
        rintro e w5 ⟨rfl, hb⟩
        have HB5 := hid (below_from HB2.out hb)
        have HS5 := hid (HS2.out.later hb)
        have HR5 := hid (HR2.out.later hb)
        clear hb c0 c1 c2 c3 d0 d1 d2 d3 d4
        obtain ⟨c0, c1, c2, c3⟩ := HS5.out.cells
        obtain ⟨d0, d1, d2, d3, d4⟩ := HR5.out.cells
        go_wp2_with fail
        refine (KU5.out w5 HB5.out).mono ?_
        rintro e w6 ⟨i1, i2, s1, n1, k1, s2, n2, k2, xx, rfl, hb⟩
        obtain ⟨U, hU⟩ : ∃ U, U = w6.alloc (.cells #[.int .i64 i1, .int .i64 i2, .slice s1 n1 k1, .slice s2 n2 k2] 25) := ⟨_, rfl⟩
        have hbU : Below w6.heap.size w6 U := by rw [hU]; exact (Below.refl _ _).alloc (Nat.le_refl _) _
        have HBU := hid (below_from (below_from HB5.out hb) hbU)
        have HU := hid hU
        clear hb hU hbU c0 c1 c2 c3 d0 d1 d2 d3 d4
        go_wp2_with fail
        rw [← HU.out]
        refine (askBegun_any U).mono ?_
        rintro e w9 ⟨rfl, hb⟩
        have HB9 := hid (below_from HBU.out hb)
        clear hb
        go_wp2
        go_ret
        exact ⟨rfl, HB9.out⟩
  · have h1' : (e1 == 0) = false := by simp [h1]
    clear h1
    by_cases g0 : seekE c n l b r = 0
    · have KS5 := KSO.out w2 HB2.out g0
      by_cases u2 : subE c n l b r = 2
      · have KU5 := KUA.out
        rw [u2] at KU5
        obtain ⟨A0, hA0⟩ : ∃ A0, (if (placeR l b r).2 = true then lowAt (placeR l b r).1 (placeR l b r).1.length else 0) = A0 := ⟨_, rfl⟩
        rw [hA0] at KS5
        obtain ⟨F0, hF0⟩ : ∃ F0, (placeR l b r).2 = F0 := ⟨_, rfl⟩
        rw [hF0] at KS5
        replace KU5 := hid KU5
        replace KS5 := hid KS5
        clear u2 g0 hA0 hF0
        go_wp2_with fail
        refine (KS5.out).mono ?_
        rintro e w5 ⟨rfl, hb⟩
        have HB5 := hid (below_from HB2.out hb)
        have HS5 := hid (HS2.out.later hb)
        have HR5 := hid (HR2.out.later hb)
        clear hb c0 c1 c2 c3 d0 d1 d2 d3 d4
        obtain ⟨c0, c1, c2, c3⟩ := HS5.out.cells
        obtain ⟨d0, d1, d2, d3, d4⟩ := HR5.out.cells
        go_wp2_with fail
        refine (KU5.out w5 HB5.out).mono ?_
        rintro e w6 ⟨i1, i2, s1, n1, k1, s2, n2, k2, xx, rfl, hb⟩
        obtain ⟨U, hU⟩ : ∃ U, U = w6.alloc (.cells #[.int .i64 i1, .int .i64 i2, .slice s1 n1 k1, .slice s2 n2 k2] 25) := ⟨_, rfl⟩
        have hbU : Below w6.heap.size w6 U := by rw [hU]; exact (Below.refl _ _).alloc (Nat.le_refl _) _
        have HBU := hid (below_from (below_from HB5.out hb) hbU)
        have HU := hid hU
        clear hb hU hbU c0 c1 c2 c3 d0 d1 d2 d3 d4
        go_wp2_with fail
        rw [← HU.out]
        refine (askBegun_any U).mono ?_
        rintro e w9 ⟨rfl, hb⟩
        have HB9 := hid (below_from HBU.out hb)
        clear hb
        go_wp2
        go_ret
        exact ⟨rfl, HB9.out⟩
      · by_cases fp : (placeR l b r).2 = true
        · have u0 : subE c n l b r = 0 := by
            unfold subE at u2 ⊢
            rw [if_pos g0] at u2 ⊢
            by_cases m : 12 ≤ b.length ∨ 1048576 ≤ n
            · rw [if_pos m] at u2; exact absurd rfl u2
            · rw [if_neg m, if_pos fp]
          have hp0 := place_some g0 fp
          have KU5 := hid fun X hX => KUO.out X hX u0
          have hb12 : bn < 12 := by have := (sub_ok u0).2.1; have := HBN.out; omega
          obtain ⟨X, hX⟩ : ∃ X, (placeR l b r).1 = X := ⟨_, rfl⟩
          rw [if_pos fp, fp, hX] at KS5
          rw [hX] at KU5 hp0
          obtain ⟨a, ha⟩ : ∃ a, lowAt X X.length = a := ⟨_, rfl⟩
          rw [ha] at KS5
          replace KS5 := hid KS5
          have HLO := hid fun j (hj : j < X.length) => (low_le X hj : lowAt X X.length ≤ rN X j)
          rw [ha] at HLO
          have HBG : Hid (begB X a X.length = true) := by
            obtain ⟨j, h1, h2⟩ := low_is X hp0
            exact hid (begB_true h1 (by rw [← h2, ha]))
          have HP0 := hid hp0
          clear u2 g0 fp u0 hX ha hp0
          go_wp2_with fail
          refine (KS5.out).mono ?_
          rintro e w5 ⟨rfl, hb⟩
          have HB5 := hid (below_from HB2.out hb)
          have HS5 := hid (HS2.out.later hb)
          have HR5 := hid (HR2.out.later hb)
          clear hb c0 c1 c2 c3 d0 d1 d2 d3 d4
          obtain ⟨c0, c1, c2, c3⟩ := HS5.out.cells
          obtain ⟨d0, d1, d2, d3, d4⟩ := HR5.out.cells
          go_wp2_with fail
          refine (KU5.out w5 HB5.out).mono ?_
          rintro e w6 ⟨g, k1, l4, g9, k9, b9, rfl, hSt, hbq, hbb, hb⟩
          obtain ⟨U, hU⟩ : ∃ U, U = w6.alloc (.cells #[.int .i64 c, .int .i64 (n + 1), .slice (some ⟨g, 0, none⟩) tn k1, .slice (some ⟨g9, 0, none⟩) (bn + 1) k9] 25) := ⟨_, rfl⟩
          have hbU : Below w6.heap.size w6 U := by rw [hU]; exact (Below.refl _ _).alloc (Nat.le_refl _) _
          have HBU := hid (below_from (below_from HB5.out hb) hbU)
          have HU := hid hU
          obtain ⟨A, hA⟩ : ∃ A, w6.heap.size = A := ⟨_, rfl⟩
          have HA : Hid (StBox U A (.int .i64 c) (.int .i64 (n + 1)) (.slice (some ⟨g, 0, none⟩) tn k1) (.slice (some ⟨g9, 0, none⟩) (bn + 1) k9)) := hid (by rw [hU, ← hA]; exact StBox.new w6 _ _ _ _)
          have hSU := hSt.later hbU
          have hbt := hSU.2.bites bn (by omega)
          obtain ⟨bb, bo, e9, hcs⟩ := hSU.2.cells (by omega)
          simp only [Option.some.injEq, Addr.mk.injEq, and_true] at e9
          obtain ⟨rfl, rfl⟩ := e9
          obtain ⟨_, _, _, _, _, _, e6⟩ := hcs bn (by omega)
          have hlb := last_bs hbb
          rw [← HBN.out] at hlb
          rw [hlb] at hbt
          obtain ⟨va, vn, vc, hva⟩ : ∃ va vn vc, Value.slice (bk b9 bn).ba (bk b9 bn).bn (bk b9 bn).bc = .slice va vn vc ∧ RunsIn U va vn vc X := ⟨_, _, _, rfl, hbt⟩
          rw [hva.1] at e6
          simp only [Nat.zero_add] at e6
          have hvr := hva.2
          have hk9 : bn + 1 ≤ k9 := hSU.2.le
          have hk9b : k9 ≤ 9223372036854775807 := hSU.2.capb
          have hvl := hvr.len
          have hvp : 0 < vn := by have := HP0.out; omega
          obtain ⟨vb, vo, rfl, hcv⟩ := hvr.cells hvp
          have hvle := hvr.le
          have hvbd := hvr.bound
          have hvcb := hvr.capb
          have HVL := hid hvl
          have HCV := hid hcv
          obtain ⟨a0, a1, a2, a3⟩ := HA.out.cells
          rw [HU.out] at a0 a1 a2 a3 e6
          clear hb hU hbU hSt hSU hbq hbb hbt hcs hlb hva hvr hvl hcv c0 c1 c2 c3 d0 d1 d2 d3 d4
          have hx1 : (bn : Int) + 1 - 1 = bn := by omega
          have hx2 : (bn : Int) < (bn : Int) + 1 := by omega
          have hx3 : ¬ (bn : Int) + 1 = 0 := by omega
          go_wp2
          go_loopw [22, 23] (fun y p wr => ∃ j : Nat, y = .bool (begB X a j) ∧ p = .int .i64 j ∧ j ≤ vn ∧ Below U.heap.size U wr) (fun _ p _ => vn - (intOf p).toNat)
          case atStart => exact ⟨0, rfl, rfl, by omega, by rw [HU.out]; exact Below.refl _ _⟩
          case round =>
            obtain ⟨j, rfl, rfl, hj, hbel⟩ := hrel
            have HBE := hid hbel
            by_cases hlt : j < vn
            · have hlt' : (j : Int) < vn := by omega
              have y1 := cell_later hbel (HCV.out j hlt).2
              have hlo : ¬ rN X j < a := by have := HLO.out j (by have := HVL.out; omega); omega
              have hst : begB X a (j + 1) = (begB X a j || (rN X j == a)) := rfl
              have HST' := hid hst
              clear hbel hst
              cases hbg : begB X a j with
              | true =>
                rw [hbg] at HST'
                have HS9 : Hid (begB X a (j + 1) = true) := hid (HST'.out.trans (by simp))
                clear hbg
                go_wp2
                go_roundw
                case rel => exact ⟨j + 1, by rw [HS9.out], by go_num, by omega, HBE.out⟩
                case measure => simp [intOf]; omega
              | false =>
                rw [hbg] at HST'
                have HS9 : Hid (begB X a (j + 1) = (rN X j == a)) := hid (HST'.out.trans (by simp))
                clear hbg
                go_wp2
                go_roundw
                case rel => exact ⟨j + 1, by rw [HS9.out], by go_num, by omega, HBE.out⟩
                case measure => simp [intOf]; omega
            · obtain rfl : j = vn := by omega
              have hbv : begB X a j = true := by have := HBG.out; rwa [← HVL.out] at this
              rw [hbv]
              clear hbel
              go_wp2_with fail
              refine (askBegun_any wr).mono ?_
              rintro e w9 ⟨rfl, hb⟩
              have HB9 := hid (below_from (below_from HBU.out HBE.out) hb)
              clear hb
              go_wp2
              go_ret
              exact ⟨rfl, HB9.out⟩
        · have fp' : (placeR l b r).2 = false := by simpa using fp
          have u8 : subE c n l b r = 8 := by
            unfold subE at u2 ⊢
            rw [if_pos g0] at u2 ⊢
            by_cases m : 12 ≤ b.length ∨ 1048576 ≤ n
            · rw [if_pos m] at u2; exact absurd rfl u2
            · rw [if_neg m, if_neg fp]
          rw [if_neg fp, fp'] at KS5
          have KU5 := KUA.out
          rw [u8] at KU5
          replace KU5 := hid KU5
          replace KS5 := hid KS5
          clear u2 g0 fp fp' u8
          go_wp2_with fail
          refine (KS5.out).mono ?_
          rintro e w5 ⟨rfl, hb⟩
          have HB5 := hid (below_from HB2.out hb)
          have HS5 := hid (HS2.out.later hb)
          have HR5 := hid (HR2.out.later hb)
          clear hb c0 c1 c2 c3 d0 d1 d2 d3 d4
          obtain ⟨c0, c1, c2, c3⟩ := HS5.out.cells
          obtain ⟨d0, d1, d2, d3, d4⟩ := HR5.out.cells
          go_wp2_with fail
          refine (KU5.out w5 HB5.out).mono ?_
          rintro e w6 ⟨i1, i2, s1, n1, k1, s2, n2, k2, xx, rfl, hb⟩
          obtain ⟨U, hU⟩ : ∃ U, U = w6.alloc (.cells #[.int .i64 i1, .int .i64 i2, .slice s1 n1 k1, .slice s2 n2 k2] 25) := ⟨_, rfl⟩
          have hbU : Below w6.heap.size w6 U := by rw [hU]; exact (Below.refl _ _).alloc (Nat.le_refl _) _
          have HBU := hid (below_from (below_from HB5.out hb) hbU)
          have HU := hid hU
          clear hb hU hbU c0 c1 c2 c3 d0 d1 d2 d3 d4
          go_wp2_with fail
          rw [← HU.out]
          refine (askBegun_any U).mono ?_
          rintro e w9 ⟨rfl, hb⟩
          have HB9 := hid (below_from HBU.out hb)
          clear hb
          go_wp2
          go_ret
          exact ⟨rfl, HB9.out⟩
    · have KS5 := KSW.out w2 HB2.out g0
      have KU5 := KUA.out
      have eu : subE c n l b r = seekE c n l b r := if_neg g0
      rw [eu] at KU5
      obtain ⟨E, hE⟩ : ∃ E, seekE c n l b r = E := ⟨_, rfl⟩
      rw [hE] at KU5 KS5 g0
      have hne : (E != 0) = true := by simp [g0]
      have hee : (E == E) = true := by simp
      replace KU5 := hid KU5
      replace KS5 := hid KS5
      clear g0 eu hE
      go_wp2_with fail
      refine (KS5.out).mono ?_
      rintro e w5 ⟨rfl, hb⟩
      have HB5 := hid (below_from HB2.out hb)
      have HS5 := hid (HS2.out.later hb)
      have HR5 := hid (HR2.out.later hb)
      clear hb c0 c1 c2 c3 d0 d1 d2 d3 d4
      obtain ⟨c0, c1, c2, c3⟩ := HS5.out.cells
      obtain ⟨d0, d1, d2, d3, d4⟩ := HR5.out.cells
      go_wp2_with fail
      refine (KU5.out w5 HB5.out).mono ?_
      rintro e w6 ⟨i1, i2, s1, n1, k1, s2, n2, k2, xx, rfl, hb⟩
      obtain ⟨U, hU⟩ : ∃ U, U = w6.alloc (.cells #[.int .i64 i1, .int .i64 i2, .slice s1 n1 k1, .slice s2 n2 k2] 25) := ⟨_, rfl⟩
      have hbU : Below w6.heap.size w6 U := by rw [hU]; exact (Below.refl _ _).alloc (Nat.le_refl _) _
      have HBU := hid (below_from (below_from HB5.out hb) hbU)
      have HU := hid hU
      clear hb hU hbU c0 c1 c2 c3 d0 d1 d2 d3 d4
      go_wp2_with fail
      rw [← HU.out]
      refine (askBegun_any U).mono ?_
      rintro e w9 ⟨rfl, hb⟩
      have HB9 := hid (below_from HBU.out hb)
      clear hb
      go_wp2
      go_ret
      exact ⟨rfl, HB9.out⟩

set_option maxRecDepth 100000 in
theorem AskTrue_lifted (os : Os) (started : os.Started) (H : Type) (enc : TypeId × Value → H) :
    ReturnsInHanded {} Try.checked os 3 .any (Rows.askTrueSpec.pre6 enc Try.prog Try.f3 Rows.askTrueRow.domain false) (Rows.askTrueSpec.post enc Try.prog Try.f3 false true false false) := by
  refine returnsInHanded_of_change (C := Try.checked) own started (by kernel_rfl) Try.func3
    (ChangeSpec.witness6 (enc := enc) (C := Try.checked) false ⟨#[], #[.agg #[.int .i64 0, .int .i64 0, .slice none 0 0, .slice none 0 0], .int .i64 0, .int .i64 0, .agg #[.int .i64 0, .int .i64 0, .int .i64 0, .int .i64 0, .slice none 0 0]], []⟩ 8 (by kernel_rfl) (by kernel_rfl) (by kernel_rfl) (by kernel_rfl)) ?_
  intro W base args ds gs before hval0 hW hcnd _
  have hval : ∀ (j : Nat) t v, Try.f3.params[j]? = some t → args[j]? = some v → Value.okWide Try.prog W .any base t v := hval0
  have hW' := hW
  obtain ⟨p, q, hA0, hV, rfl, hfz, hnd⟩ := hW
  have hA : DataW.TrodAll enc Try.prog W 0 (fun _ => true) true Try.f3.params.toList args.toList ds p := hA0
  rw [Try.params3] at hA hval
  obtain ⟨v0, vs0, d0, ds0, p0, q0, hargs, rfl, rfl, h0, r0⟩ := trodAll_cons hA
  obtain ⟨v1, vs1, d1, ds1, p1, q1, rfl, rfl, rfl, h1, r1⟩ := trodAll_cons r0
  obtain ⟨v2, vs2, d2, ds2, p2, q2, rfl, rfl, rfl, h2, r2⟩ := trodAll_cons r1
  obtain ⟨v3, vs3, d3, ds3, p3, q3, rfl, rfl, rfl, h3, r3⟩ := trodAll_cons r2
  obtain ⟨rfl, rfl, rfl⟩ := trodAll_nil r3
  obtain rfl : args = #[v0, v1, v2, v3] := by cases args; simp_all
  obtain ⟨rfl, rfl⟩ := trodVars_none hV
  have k0 := h0
  have lt0 : ∀ x ∈ p0, x.block < W.heap.size := by obtain ⟨m, hm⟩ := k0; exact DataW.trod_lt m _ _ _ hm
  obtain ⟨sc0, sn0, sta0, stn0, stc0, sl0, sba0, sbn0, sbc0, sb0, rfl, w0⟩ := st_arg (hval 0 25 v0 rfl rfl) h0
  obtain ⟨a1, rfl, rfl, rfl, w1⟩ := open_int Try.underlying3 (hval 1 3 v1 rfl rfl) h1
  have b1 := wf_range w1
  obtain ⟨a2, rfl, rfl, rfl, w2⟩ := open_int Try.underlying3 (hval 2 3 v2 rfl rfl) h2
  have b2 := wf_range w2
  have k3 := h3
  have lt3 : ∀ x ∈ p3, x.block < W.heap.size := by obtain ⟨m, hm⟩ := k3; exact DataW.trod_lt m _ _ _ hm
  obtain ⟨x3, rfl, w3⟩ := rq_arg (hval 3 28 v3 rfl rfl) h3
  clear hA0 hval0
  refine (AskTrue_walk W sc0 sn0 sta0 stn0 stc0 sl0 sba0 sbn0 sbc0 sb0 w0 a1 b1.1 b1.2 a2 b2.1 b2.2 x3 w3).mono fun e W' ⟨he, bel⟩ => ?_
  subst he
  exact ⟨_, rfl, _, _, _, [], _, [], hW', trodAll_mk1 (shut_bool Try.underlying4 _), (trodAll_cons_mk (Below.trod laidOut (by kernel_rfl) (of_decide_eq_true (by kernel_rfl)) k0 bel lt0) (trodAll_cons_mk (shut_int Try.underlying3 w1) (trodAll_cons_mk (shut_int Try.underlying3 w2) (trodAll_cons_mk (Below.trod laidOut (by kernel_rfl) (of_decide_eq_true (by kernel_rfl)) k3 bel lt3) trodAll_mk0)))), rfl, bel.frame _, fun h => by cases h⟩

theorem AskTrue_holds : Rows.AskTrueSaid :=
  OpenClaim.holds_of_wide 3 Try.f3 rfl rfl rfl rfl rfl rfl rfl ⟨rfl, rfl, rfl, rfl, rfl⟩ rfl rfl rfl rfl rfl (by kernel_rfl) Try.func3 (by kernel_rfl)
    (of_decide_eq_true (by kernel_rfl)) (by unfold Func.isWrapper; first | (rw [if_pos (by decide +kernel)]; kernel_rfl) | (rw [if_neg (by decide +kernel)]; exact ⟨rfl, rfl⟩))
    (fun os started H enc _ => AskTrue_lifted os started H enc)
#print axioms AskTrue_holds
end Go.Proofs.Ytcgchicdmgllaaf
