/- TreeTrue: whatever queues and numbers it is handed, the call returns true, and its arguments read afterwards as they read before. -/
import Derived.Test.YtphcphbmojioiaaTreeJ
import Derived.Test.YtphcphbmojioiaaFrameQ
namespace Go.Proofs.Ytphcphbmojioiaa
open Go.ChangeShapes Go.WideShapes Go.ChangeAt Go.RowKit

/-- what holds of a line: it begins with the queue, goes up from Parent to Parent, falls, and ends at one that has none -/
structure LineOk (l : QL) (q : Int) (zs : List Int) : Prop where
  pos : 0 < zs.length
  head : zs.getD 0 0 = q
  each : ∀ j, j < zs.length → 0 ≤ zs.getD j 0 ∧ zs.getD j 0 < l.length
  falls : ∀ j, j + 1 < zs.length → zs.getD (j + 1) 0 < zs.getD j 0 ∧ (qu l (zs.getD j 0).toNat).parent = zs.getD (j + 1) 0
  last : (qu l (zs.getD (zs.length - 1) 0).toNat).parent = -1

theorem line_ok {l : QL} (hR : Right l) : ∀ (m : Nat) (q : Int), q.toNat ≤ m → 0 ≤ q → q < l.length → LineOk l q (lineOf l q) := by
  intro m
  induction m with
  | zero =>
    intro q hm h0 h1
    obtain rfl : q = 0 := by omega
    have hp := hR.par 0 (by omega)
    have hpar : (qu l 0).parent = -1 := by omega
    have e : lineOf l 0 = [0] := by rw [line_step hR h0 h1, show (0 : Int).toNat = 0 from rfl, hpar, line_nil (by omega)]
    rw [e]
    exact ⟨by simp, rfl, fun j hj => by obtain rfl : j = 0 := by simpa using hj
                                        exact ⟨by simp, by simpa using h1⟩, fun j hj => by simp at hj, hpar⟩
  | succ m ih =>
    intro q hm h0 h1
    have hp := hR.par q.toNat (by omega)
    have e := line_step hR h0 h1
    by_cases g : (qu l q.toNat).parent = -1
    · rw [g, line_nil (l := l) (q := -1) (by omega)] at e
      rw [e]
      exact ⟨by simp, rfl, fun j hj => by obtain rfl : j = 0 := by simpa using hj
                                          exact ⟨by simpa using h0, by simpa using h1⟩, fun j hj => by simp at hj, g⟩
    · obtain ⟨p, hpe⟩ : ∃ p, (qu l q.toNat).parent = p := ⟨_, rfl⟩
      rw [hpe] at e g hp
      have I := ih p (by omega) (by omega) (by omega)
      rw [e]
      refine ⟨by simp, rfl, fun j hj => ?_, fun j hj => ?_, ?_⟩
      · cases j with
        | zero => exact ⟨by simpa using h0, by simpa using h1⟩
        | succ j => simpa using I.each j (by simpa using hj)
      · cases j with
        | zero =>
          have hh := I.head
          simp only [List.getD_cons_succ, List.getD_cons_zero]
          rw [hh]
          exact ⟨by omega, hpe⟩
        | succ j => simpa using I.falls j (by simpa using hj)
      · have hl := I.last
        have hpos := I.pos
        rw [show (q :: lineOf l p).length - 1 = (lineOf l p).length - 1 + 1 by simp; omega, List.getD_cons_succ]
        exact hl

theorem chooseT_any (c : Int) (n : Nat) (w : World) (h0 : -9223372036854775808 ≤ c) (h1 : c ≤ 9223372036854775807) (hn : 0 < n) (hn2 : n ≤ 48) :
    Calls Try.prog 25 #[.int .i64 c, .int .i64 n] w fun e w' => ∃ k : Nat, k < n ∧ e = .returned (.int .i64 k) ∧ w' = w := by
  have hn' : (0 : Int) < n := by omega
  have hne : ¬ (n : Int) = 0 := by omega
  by_cases hc : c < 0
  · have e1 : -((c + 1).tmod n) = (((-(c + 1)) % n).toNat : Int) := by
      rw [← Int.neg_tmod, Int.tmod_eq_emod_of_nonneg (by omega), Int.toNat_of_nonneg (Int.emod_nonneg _ hne)]
    have e2 : ((-(c + 1)) % n).toNat < n := by have := Int.emod_lt_of_pos (-(c + 1)) hn'; have := Int.emod_nonneg (-(c + 1)) hne; omega
    have E1 := hid e1
    clear e1
    go_enter Try.func25, Try.ntmps25
    go_wp2
    go_ret
    exact ⟨_, e2, ret_int E1.out, rfl⟩
  · have hc' : 0 ≤ c := by omega
    have e2 : (c % n).toNat < n := by have := Int.emod_lt_of_pos c hn'; have := Int.emod_nonneg c hne; omega
    have E1 : Hid (c % n = ((c % n).toNat : Int)) := (Int.toNat_of_nonneg (Int.emod_nonneg _ hne)).symm
    go_enter Try.func25, Try.ntmps25
    go_wp2
    go_ret
    exact ⟨_, e2, ret_int E1.out, rfl⟩

set_option maxRecDepth 100000 in
set_option maxHeartbeats 4000000 in
theorem TreeTrue_walk (w : World) (a : Option Addr) (n cap : Nat) (l : QL) (x y : Int) (h : QsIn w a n cap l) (hx0 : -9223372036854775808 ≤ x) (hx1 : x ≤ 9223372036854775807) (hy0 : -9223372036854775808 ≤ y) (hy1 : y ≤ 9223372036854775807) :
    Calls Try.prog 8 #[.slice a n cap, .int .i64 x, .int .i64 y] w fun e w' => e = .returned (.bool true) ∧ Below w.heap.size w w' := by
  by_cases hc : chkT l = 0
  · have HR := hid (right_of hc)
    have HN := hid h.len
    have hcb := h.capb
    have hle := h.le
    have hp : 0 < n := by have := HR.out.pos; have := HN.out; omega
    have h5 : n ≤ 5 := by have := HR.out.five; have := HN.out; omega
    obtain ⟨b, off, rfl, hcell⟩ := h.cells hp
    have HC := hid hcell
    clear hcell
    have hnz : ((n : Int) == 0) = false := beq_eq_false_iff_ne.2 (by omega)
    go_enter Try.func8, Try.ntmps8
    go_wp2_with fail
    refine (CheckT_any w _ n cap l h).mono ?_
    rintro e w1 ⟨rfl, B⟩
    rw [hc]
    have B1 := hid B
    clear B
    go_wp2_with fail
    refine (chooseT_any x n w1 hx0 hx1 hp (by omega)).mono ?_
    rintro e w' ⟨i, hi, rfl, hw'⟩
    rw [hw']
    clear hw' w'
    go_wp2_with fail
    refine (chooseT_any y n w1 hy0 hy1 hp (by omega)).mono ?_
    rintro e w' ⟨k, hk, rfl, hw'⟩
    rw [hw']
    clear hw' w'
    have hei : qErr l i = 0 := qErr_ok hc ⟨by omega, by rw [← HN.out]; omega⟩
    have hek : qErr l k = 0 := qErr_ok hc ⟨by omega, by rw [← HN.out]; omega⟩
    have hl0 : lineR l i = lineOf l i := by rw [lineR, if_pos hei]
    have hu0 : underR l k = underOf l n k := by rw [underR, if_pos hek, HN.out]
    have LO := hid (line_ok HR.out i i (by omega) (by omega) (by rw [← HN.out]; omega))
    have hl5 := line_len l i
    have MEM : Hid (∀ q, standsIn l i q = hasTo (lineOf l i) q (lineOf l i).length) := fun _ => rfl
    have MEM2 : Hid (∀ j, j < (lineOf l i).length → standsIn l i ((lineOf l i).getD j 0) = true) := fun j hj => by
      rw [standsIn, hasTo_true (k := j) (by simp) _ hj]
    have HEI := hid hei
    have HEK := hid hek
    have HL0 := hid hl0
    have HU0 := hid hu0
    clear hei hek hl0 hu0
    go_wp2_with fail
    have K := Line_any w1 _ n cap l i (h.later B1.out)
    rw [HEI.out, HL0.out] at K
    refine K.mono ?_
    clear K
    rintro e w2 ⟨a2, m, cap2, rfl, I, B⟩
    have B2 := hid (below_from B1.out B)
    have I2 := hid I
    clear I B B1
    go_wp2_with fail
    have K := Under_any w2 _ n cap l k (h.later B2.out)
    rw [HEK.out, HU0.out] at K
    refine K.mono ?_
    clear K
    rintro e w3 ⟨a3, n3, cap3, rfl, U, B⟩
    obtain rfl : n = n3 := by rw [U.len, underOf_len]
    have B3 := hid (below_from B2.out B)
    have I3 := hid (I2.out.later B)
    have U3 := hid U
    clear B U B2 I2
    obtain ⟨zs, hzs⟩ : ∃ zs, lineOf l i = zs := ⟨_, rfl⟩
    rw [hzs] at LO MEM MEM2 I3 hl5
    clear hzs HL0
    have hmz : m = zs.length := I3.out.len
    have HMZ := hid hmz
    have hm0 : 0 < m := by rw [hmz]; exact LO.out.pos
    have hm5 : m ≤ 5 := by rw [hmz]; exact hl5
    clear hmz hl5
    have hmcap := I3.out.le
    have hccap := I3.out.capb
    have hmne : ((m : Int) == 0) = false := beq_eq_false_iff_ne.2 (by omega)
    have hnn : ((n : Int) != n) = false := by simp
    obtain ⟨b2, o2, rfl, hz⟩ := I3.out.cells hm0
    have HZ := hid hz
    have z0 : w3.cell? ⟨b2, o2, none⟩ = some (.int .i64 i) := by have := hz 0 hm0; rw [LO.out.head] at this; exact this
    have hii : ((i : Int) != i) = false := by simp
    have hm0' : (0 : Int) < m := by omega
    clear hz
    obtain ⟨b3, o3, rfl, hu⟩ := U3.out.cells hp
    have HU : Hid (w3.cell? ⟨b3, o3 + i, none⟩ = some (.bool (standsIn l i k))) := by have := hu i hi; rw [underOf_get l n k i hi] at this; exact this
    have hucap := U3.out.le
    clear hu
    go_wp2_with fail
    clear z0
    go_loopw [13, 14] (fun ss st wr => ∃ j : Nat, st = .int .i64 j ∧ j ≤ m ∧ ss = .bool (hasTo zs k j) ∧ Below w3.heap.size w3 wr) (fun _ st _ => m - (intOf st).toNat)
    case atStart => exact ⟨0, rfl, by omega, rfl, Below.refl _ _⟩
    case round =>
      obtain ⟨j, rfl, hj, rfl, hbel⟩ := hrel
      have HB := hid hbel
      clear hbel
      by_cases hlt : j < m
      · have hlt' : (j : Int) < m := by omega
        have EZ := LO.out.each j (by rw [← HMZ.out]; exact hlt)
        obtain ⟨Z, hZ⟩ := Int.eq_ofNat_of_zero_le EZ.1
        have cz : wr.cell? ⟨b2, o2 + j, none⟩ = some (.int .i64 Z) := by have := cell_later HB.out (HZ.out j hlt); rw [hZ] at this; exact this
        have hZn : Z < n := by have := EZ.2; rw [hZ] at this; have := HN.out; omega
        have hZn' : (Z : Int) < n := by omega
        have gz1 : decide ((Z : Int) < 0) = false := by simp
        have gz2 : decide (n ≤ Z) = false := by simp; omega
        have hZe : qErr l Z = 0 := qErr_ok hc ⟨by omega, by rw [← HN.out]; omega⟩
        have HSI : Hid (standsIn l i Z = true) := by have := MEM2.out j (by rw [← HMZ.out]; exact hlt); rw [hZ] at this; exact this
        have HZE := hid hZe
        have SN : Hid (hasTo zs k (j + 1) = (hasTo zs k j || ((Z : Int) == k))) := by show (hasTo zs k j || (zs.getD j 0 == (k : Int))) = _; rw [hZ]
        have GZ := hid hZ
        clear EZ hZ hZe
        obtain ⟨sj, hsj⟩ : ∃ s, hasTo zs k j = s := ⟨_, rfl⟩
        rw [hsj] at SN ⊢
        clear hsj
        have U1 := hid (fun W (hb : Below w.heap.size w W) => Under_any W _ n cap l (Z : Int) (h.later hb))
        have UN : Hid (underR l Z = underOf l n Z) := by show underR l Z = underOf l n Z; rw [underR, if_pos HZE.out, HN.out]
        have HBW := hid (below_from B3.out HB.out)
        cases j with
        | zero =>
          rw [Nat.add_zero] at cz
          have gz3 : decide ((0 : Int) < 0) = false := by decide
          go_wp2
          go_big_quiet (fail)
          have HBq := hid (below_drewN HBW.out nq)
          have HB3q := hid (below_drewN HB.out nq)
          have czq : (wr.drewN nq).cell? ⟨b2, o2, none⟩ = some (.int .i64 Z) := cz
          obtain ⟨wq, hwq⟩ : ∃ wq, wr.drewN nq = wq := ⟨_, rfl⟩
          rw [hwq] at HBq HB3q czq ⊢
          clear hwq cz
          cases sj
          all_goals
            go_wp2_with fail
            have K := U1.out wq HBq.out
            rw [HZE.out, UN.out] at K
            refine K.mono ?_
            clear K
            rintro e w5 ⟨a5, n5, cap5, rfl, V, B⟩
            obtain rfl : n = n5 := by rw [V.len, underOf_len]
            obtain ⟨b5, o5, rfl, hv⟩ := V.cells hp
            have cv : w5.cell? ⟨b5, o5 + i, none⟩ = some (.bool true) := by have := hv i hi; rw [underOf_get l n Z i hi, HSI.out] at this; exact this
            have hi' : (i : Int) < n := by omega
            have hvcap := V.le
            have HB5 := hid (below_from HB3q.out B)
            clear hv V B
            go_wp2
            go_roundw
            case rel => exact ⟨1, rfl, by omega, by rw [SN.out]; rfl, HB5.out⟩
            case measure => simp [intOf]; omega
        | succ t =>
          have hFL := LO.out.falls t (by rw [← HMZ.out]; exact hlt)
          have EP := LO.out.each t (by have := HMZ.out; omega)
          obtain ⟨P, hP⟩ := Int.eq_ofNat_of_zero_le EP.1
          have cp : wr.cell? ⟨b2, o2 + t, none⟩ = some (.int .i64 P) := by have := cell_later HB.out (HZ.out t (by omega)); rw [hP] at this; exact this
          have hPn : P < n := by have := EP.2; rw [hP] at this; have := HN.out; omega
          have hPn' : (P : Int) < n := by omega
          rw [hP, GZ.out, Int.toNat_natCast] at hFL
          have cpar : wr.cell? ⟨b, off + P * 3 + 1, none⟩ = some (.int .i64 Z) := by have := cell_later HBW.out (HC.out P hPn).2.1; rw [hFL.2] at this; exact this
          have gz4 : decide (P ≤ Z) = false := by simp; omega
          have gz5 : decide ((0 : Int) < ↑t + 1) = true := by simp
          have ht' : (t : Int) < m := by omega
          have hwt : IntKind.i64.wrap (t : Int) = t := by rw [IntKind.wrap_i64]; omega
          have hZZ : ((Z : Int) != Z) = false := by simp
          clear hFL EP hP
          go_wp2
          go_big_quiet (fail)
          have HBq := hid (below_drewN HBW.out nq)
          have HB3q := hid (below_drewN HB.out nq)
          have czq : (wr.drewN nq).cell? ⟨b2, o2 + (t + 1), none⟩ = some (.int .i64 Z) := cz
          obtain ⟨wq, hwq⟩ : ∃ wq, wr.drewN nq = wq := ⟨_, rfl⟩
          rw [hwq] at HBq HB3q czq ⊢
          clear hwq cz cp cpar
          cases sj
          all_goals
            go_wp2_with fail
            have K := U1.out wq HBq.out
            rw [HZE.out, UN.out] at K
            refine K.mono ?_
            clear K
            rintro e w5 ⟨a5, n5, cap5, rfl, V, B⟩
            obtain rfl : n = n5 := by rw [V.len, underOf_len]
            obtain ⟨b5, o5, rfl, hv⟩ := V.cells hp
            have cv : w5.cell? ⟨b5, o5 + i, none⟩ = some (.bool true) := by have := hv i hi; rw [underOf_get l n Z i hi, HSI.out] at this; exact this
            have hi' : (i : Int) < n := by omega
            have hvcap := V.le
            have HB5 := hid (below_from HB3q.out B)
            clear hv V B
            go_wp2
            go_roundw
            case rel => exact ⟨t + 1 + 1, by go_num, by omega, by rw [SN.out]; rfl, HB5.out⟩
            case measure => simp [intOf]; omega
      · obtain rfl : m = j := by omega
        have HST : Hid (hasTo zs k m = standsIn l i k) := by have := MEM.out k; rw [← HMZ.out] at this; exact this.symm
        rw [HST.out]
        obtain ⟨sb, hsb⟩ : ∃ s, standsIn l i k = s := ⟨_, rfl⟩
        rw [hsb]
        have HSB := hid hsb
        clear hsb
        obtain ⟨r, hr⟩ : ∃ r, m = r + 1 := ⟨m - 1, by omega⟩
        subst hr
        have EP := LO.out.each r (by have := HMZ.out; omega)
        obtain ⟨P, hP⟩ := Int.eq_ofNat_of_zero_le EP.1
        have hPn : P < n := by have := EP.2; rw [hP] at this; have := HN.out; omega
        have hPn' : (P : Int) < n := by omega
        have hlast := LO.out.last
        rw [← HMZ.out, Nat.add_sub_cancel, hP, Int.toNat_natCast] at hlast
        have HLA := hid hlast
        have GP := hid hP
        clear EP hP hlast
        go_wp2_with fail
        refine (treeBegun_any wr).mono ?_
        rintro e w6 ⟨rfl, B⟩
        have HB6 := hid (below_from HB.out B)
        have HBW6 := hid (below_from B3.out HB6.out)
        have cl : w6.cell? ⟨b2, o2 + r, none⟩ = some (.int .i64 P) := by have := cell_later HB6.out (HZ.out r (by omega)); rw [GP.out] at this; exact this
        have cpar : w6.cell? ⟨b, off + P * 3 + 1, none⟩ = some (.int .i64 (-1)) := by have := cell_later HBW6.out (HC.out P hPn).2.1; rw [HLA.out] at this; exact this
        have cu : w6.cell? ⟨b3, o3 + i, none⟩ = some (.bool sb) := by have := cell_later HB6.out HU.out; rw [HSB.out] at this; exact this
        have hi' : (i : Int) < n := by omega
        have hbb : (sb == sb) = true := by simp
        have hr' : (r : Int) < (r : Int) + 1 := by omega
        clear B
        go_wp2
        go_ret
        exact ⟨rfl, HBW6.out⟩
  · have hne : (chkT l != 0) = true := by simp [hc]
    go_enter Try.func8, Try.ntmps8
    go_wp2_with fail
    refine (CheckT_any w _ n cap l h).mono ?_
    rintro e w1 ⟨rfl, B⟩
    have B1 := hid B
    clear B
    go_wp2_with fail
    refine (treeBegun_any w1).mono ?_
    rintro e w2 ⟨rfl, B⟩
    have B2 := hid (below_from B1.out B)
    clear B
    go_wp2
    go_ret
    exact ⟨rfl, B2.out⟩

theorem wf_rangeT {x : Int} (h : (Lit.int .i64 x).wf = true) : -9223372036854775808 ≤ x ∧ x ≤ 9223372036854775807 := by
  simp [Lit.wf, IntKind.min, IntKind.max, IntKind.signed, IntKind.bits] at h
  exact ⟨by omega, by omega⟩

set_option maxRecDepth 100000 in
theorem TreeTrue_lifted (os : Os) (started : os.Started) (H : Type) (enc : TypeId × Value → H) :
    ReturnsInHanded {} Try.checked os 8 .any (Rows.treeTrueSpec.pre6 enc Try.prog Try.f8 Rows.treeTrueRow.domain false) (Rows.treeTrueSpec.post enc Try.prog Try.f8 false true false false) := by
  refine returnsInHanded_of_change (C := Try.checked) own started (by kernel_rfl) Try.func8
    (ChangeSpec.witness6 (enc := enc) (C := Try.checked) false ⟨#[], #[.slice none 0 0, .int .i64 0, .int .i64 0], []⟩ 8 (by kernel_rfl) (by kernel_rfl) (by kernel_rfl) (by kernel_rfl)) ?_
  intro W base args ds gs before hval0 hW hcnd _
  have hval : ∀ (j : Nat) t v, Try.f8.params[j]? = some t → args[j]? = some v → Value.okWide Try.prog W .any base t v := hval0
  have hW' := hW
  obtain ⟨p, q, hA0, hV, rfl, hfz, hnd⟩ := hW
  have hA : DataW.TrodAll enc Try.prog W 0 (fun _ => true) true Try.f8.params.toList args.toList ds p := hA0
  rw [Try.params8] at hA hval
  obtain ⟨v0, vs0, d0, ds0, p0, q0, hargs, rfl, rfl, h0, r0⟩ := trodAll_cons hA
  obtain ⟨v1, vs1, d1, ds1, p1, q1, rfl, rfl, rfl, h1, r1⟩ := trodAll_cons r0
  obtain ⟨v2, vs2, d2, ds2, p2, q2, rfl, rfl, rfl, h2, r2⟩ := trodAll_cons r1
  obtain ⟨rfl, rfl, rfl⟩ := trodAll_nil r2
  obtain rfl : args = #[v0, v1, v2] := by cases args; simp_all
  obtain ⟨rfl, rfl⟩ := trodVars_none hV
  obtain ⟨a0, len0, cap0, rfl⟩ := okWide_slice Try.underlying37 (hval 0 37 v0 rfl rfl)
  have k0 := h0
  have lt0 : ∀ x ∈ p0, x.block < W.heap.size := by obtain ⟨m, hm⟩ := k0; exact DataW.trod_lt m _ _ _ hm
  obtain ⟨l0, w0⟩ : ∃ l, QsIn W a0 len0 cap0 l := by
    obtain ⟨fuel, hf⟩ := h0
    exact qs_open (by simp [Value.cells]) hf
  obtain ⟨a1, rfl, rfl, rfl, w1⟩ := open_int Try.underlying3 (hval 1 3 v1 rfl rfl) h1
  obtain ⟨a2, rfl, rfl, rfl, w2⟩ := open_int Try.underlying3 (hval 2 3 v2 rfl rfl) h2
  clear hA0 hval0
  refine (TreeTrue_walk W a0 len0 cap0 l0 a1 a2 w0 (wf_rangeT w1).1 (wf_rangeT w1).2 (wf_rangeT w2).1 (wf_rangeT w2).2).mono fun e W' ⟨he, bel⟩ => ?_
  subst he
  exact ⟨_, rfl, _, _, _, [], _, [], hW', trodAll_mk1 (shut_bool Try.underlying4 _), (trodAll_cons_mk (Below.trod laidOut (by kernel_rfl) (of_decide_eq_true (by kernel_rfl)) k0 bel lt0) (trodAll_cons_mk (shut_int Try.underlying3 w1) (trodAll_cons_mk (shut_int Try.underlying3 w2) trodAll_mk0))), rfl, bel.frame _, fun h => by cases h⟩

theorem TreeTrue_holds : Rows.TreeTrueSaid :=
  OpenClaim.holds_of_wide 8 Try.f8 rfl rfl rfl rfl rfl rfl rfl ⟨rfl, rfl, rfl, rfl, rfl⟩ rfl rfl rfl rfl rfl (by kernel_rfl) Try.func8 (by kernel_rfl)
    (of_decide_eq_true (by kernel_rfl)) (by unfold Func.isWrapper; first | (rw [if_pos (by decide +kernel)]; kernel_rfl) | (rw [if_neg (by decide +kernel)]; exact ⟨rfl, rfl⟩))
    (fun os started H enc _ => TreeTrue_lifted os started H enc)
#print axioms TreeTrue_holds
end Go.Proofs.Ytphcphbmojioiaa
