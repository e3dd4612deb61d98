/- Contracts of the reference's MeetsOf and OverOf, whatever they are handed. -/
import Derived.Test.YtcgchicdmgllaabReqF
namespace Go.Proofs.Ytcgchicdmgllaab
open Go.RowKit

set_option maxRecDepth 100000 in
set_option maxHeartbeats 2000000 in
theorem MeetsOf_any (w : World) (r : Rq) (h : RqIn w r) (ba : Option Addr) (bn bc : Nat) (b : RunL) (hb : RunsIn w ba bn bc b) :
    Calls Try.prog 15 #[.agg #[.int .i64 r.queue, .int .i64 r.fr, .int .i64 r.un, .int .i64 r.kind, .slice r.pa r.pn r.pc], .slice ba bn bc] w fun e w' => e = .returned (.bool (meets r b)) ∧ Below w.heap.size w w' := by
  rw [← meetsOf_eq]
  have HN := hid hb.len
  have hle := hb.le
  have hcb := hb.capb
  have B1 := hid ((Below.refl w.heap.size w).alloc (Nat.le_refl _) (.cells #[.int .i64 r.queue, .int .i64 r.fr, .int .i64 r.un, .int .i64 r.kind, .slice r.pa r.pn r.pc] 25))
  have K1 := hid fun w1 (hb : Below w.heap.size w w1) => shaped_any w1 r (h.later hb)
  have KC := hid (box_cells w r)
  by_cases g1 : chkR false r = 0
  · by_cases hpos : 0 < bn
    · obtain ⟨bb, bo, rfl, _⟩ := hb.cells hpos
      exact MeetsOf_some w r h bb bo bn bc b hb g1 hpos
    · obtain rfl : bn = 0 := by omega
      have hp3 := of_decide_eq_true (chkR_zero.1 g1).2.1
      have hpl := h.len
      have hpp : ¬ (0 : Int) = r.pn := by omega
      have hpp2 : ¬ (r.pn : Int) = 0 := by omega
      have hr : meetsOf r b = false := by
        rw [meetsOf, ← HN.out, decide_eq_false (show ¬ (0 : Nat) = 1 by omega), decide_eq_false (show ¬ 0 = r.ps.length by omega)]; simp
      rw [hr]
      have hx0 : decide (chkR false r = 0) = true := by rw [g1]; rfl
      rw [hx0] at K1
      clear hx0 g1 hr hp3 hpl
      go_enter Try.func15, Try.ntmps15
      go_wp2_with fail
      refine (K1.out _ B1.out).mono ?_
      rintro e w1 ⟨rfl, B2⟩
      have B3 := hid (below_from B1.out B2)
      obtain ⟨c0, c1, c2, c3, c4⟩ := KC.out w1 B2
      clear B2
      go_wp2_with fail
      go_loop [5] (fun st => st = .int .i64 0) (fun _ => 0)
      case atStart => rfl
      case round =>
        subst hrel
        by_cases k2 : r.kind = 2
        · rw [k2] at c3
          go_wp2
          go_ret
          exact ⟨rfl, B3.out⟩
        · go_wp2
          go_ret
          exact ⟨rfl, B3.out⟩
  · have hr : meetsOf r b = false := by rw [meetsOf, decide_eq_false g1]; rfl
    rw [hr]
    have hx0 : decide (chkR false r = 0) = false := decide_eq_false g1
    rw [hx0] at K1
    clear hx0 hr g1
    go_enter Try.func15, Try.ntmps15
    go_wp2_with fail
    refine (K1.out _ B1.out).mono ?_
    rintro e w1 ⟨rfl, B2⟩
    have B3 := hid (below_from B1.out B2)
    clear B2
    go_wp2
    go_ret
    exact ⟨rfl, B3.out⟩

set_option maxHeartbeats 2000000 in
theorem OverOf_any (w : World) (r : Rq) (h : RqIn w r) (ba : Option Addr) (bn bc : Nat) (b : RunL) (hb : RunsIn w ba bn bc b) :
    Calls Try.prog 10 #[.agg #[.int .i64 r.queue, .int .i64 r.fr, .int .i64 r.un, .int .i64 r.kind, .slice r.pa r.pn r.pc], .slice ba bn bc] w fun e w' => e = .returned (.tuple #[.int .i64 (if overOk r b = true then overMax r b b.length else 0), .int .i64 (if overOk r b = true then 0 else 1)]) ∧ Below w.heap.size w w' := by
  have HN := hid hb.len
  have hle := hb.le
  have hcb := hb.capb
  have B1 := hid ((Below.refl w.heap.size w).alloc (Nat.le_refl _) (.cells #[.int .i64 r.queue, .int .i64 r.fr, .int .i64 r.un, .int .i64 r.kind, .slice r.pa r.pn r.pc] 25))
  have K1 := hid fun w1 (hb : Below w.heap.size w w1) => shaped_any w1 r (h.later hb)
  have KC := hid (box_cells w r)
  by_cases g2 : bn = 0
  · have ho := overOk_no (show overOk r b = false by rw [overOk, ← HN.out, g2]; simp)
    rw [ho.1, ho.2]
    clear ho
    subst g2
    go_enter Try.func10, Try.ntmps10
    go_wp2
    go_ret2
    exact ⟨rfl, B1.out⟩
  have hpos : 0 < bn := by omega
  have g2' : ¬ (bn : Int) = 0 := by omega
  by_cases g1 : chkR false r = 0
  · have hx0 : decide (chkR false r = 0) = true := by rw [g1]; rfl
    rw [hx0] at K1
    have hpl := h.len
    have hp3 := of_decide_eq_true (chkR_zero.1 g1).2.1
    have hpp : 0 < r.pn := by omega
    have hp3' : r.pn ≤ 3 := by omega
    have HPN := hid hpl
    have HC0 := hid g1
    obtain ⟨pb, po, hpa, hpc⟩ := h.cells hpp
    obtain ⟨bb, bo, rfl, hcc⟩ := hb.cells hpos
    rw [hpa] at K1 KC B1
    rw [hpa]
    have hwp : IntKind.i64.wrap ((r.pn : Int) - 1) = r.pn - 1 := by rw [IntKind.wrap_i64]; omega
    have HCB0 := hid hcc
    have HPB0 := hid hpc
    obtain ⟨Z, hZ⟩ : ∃ Z : Value × Value, (.int .i64 (if overOk r b = true then overMax r b b.length else 0), .int .i64 (if overOk r b = true then 0 else 1)) = Z := ⟨_, rfl⟩
    have Z1 : Value.int .i64 (if overOk r b = true then overMax r b b.length else 0) = Z.1 := by rw [← hZ]
    have Z2 : Value.int .i64 (if overOk r b = true then 0 else 1) = Z.2 := by rw [← hZ]
    rw [Z1, Z2]
    have ZN : Hid (∀ j, j < bn → askV r (rAt b j) (rN b j) = false → Z = (.int .i64 0, .int .i64 1)) := fun j hj ha => by
      have ho := overOk_no (show overOk r b = false by rw [overOk, askAll, ← HN.out, allN_false (p := fun i => askV r (rAt b i) (rN b i)) ha bn hj]; simp)
      rw [← hZ, ho.1, ho.2]
    have ZY : Hid (allN (fun i => askV r (rAt b i) (rN b i)) bn = true → Z = (.int .i64 (overMax r b bn), .int .i64 0)) := fun ha => by
      have ho := overOk_yes (show overOk r b = true by rw [overOk, askAll, ← HN.out, ha, HC0.out]; simp; exact hpos)
      rw [← hZ, ho.1, ho.2, ← HN.out]
    clear hZ Z1 Z2 hcc hpc hx0 g1 hpa h hb hpl hp3 g2
    go_enter Try.func10, Try.ntmps10
    go_wp2_with fail
    refine (K1.out _ B1.out).mono ?_
    rintro e w1 ⟨rfl, B2⟩
    have B3 := hid (below_from B1.out B2)
    have KC1 := hid fun X (hX : Below w1.heap.size w1 X) => KC.out X (below_from B2 hX)
    have HCB : Hid (∀ i, i < bn → w1.cell? ⟨bb, bo + i * 2, none⟩ = some (.int .i64 (rAt b i)) ∧ w1.cell? ⟨bb, bo + i * 2 + 1, none⟩ = some (.int .i64 (rN b i))) := fun i hi => ⟨cell_later B3.out (HCB0.out i hi).1, cell_later B3.out (HCB0.out i hi).2⟩
    have HPB : Hid (∀ i, i < r.pn → w1.cell? ⟨pb, po + i * 2, none⟩ = some (.int .i64 (rAt r.ps i))) := fun i hi => cell_later B3.out (HPB0.out i hi).1
    clear B2 HCB0 HPB0 KC B1 K1
    go_wp2_with fail
    go_loopw [6, 7] (fun la st wr => ∃ j : Nat, st = .int .i64 j ∧ j ≤ bn ∧ la = .int .i64 (overMax r b j) ∧ allN (fun i => askV r (rAt b i) (rN b i)) j = true ∧ Below w1.heap.size w1 wr) (fun _ st _ => bn - (intOf st).toNat)
    case atStart => exact ⟨0, rfl, by omega, rfl, rfl, Below.refl _ _⟩
    case round =>
      obtain ⟨j, rfl, hj, rfl, hall, hbel⟩ := hrel
      have HA := hid hall
      have HB := hid hbel
      clear hall hbel
      by_cases hlt : j < bn
      · have hlt' : (j : Int) < bn := by omega
        have d0 := cell_later HB.out (HCB.out j hlt).1
        have d1 := cell_later HB.out (HCB.out j hlt).2
        obtain ⟨c0, c1, c2, c3, c4⟩ := KC1.out wr HB.out
        have HOB := hid (overMax_bound HC0.out HA.out j (Nat.le_refl _))
        have HO0 : Hid (j = 0 → overMax r b j = 0) := fun e => by rw [e]; rfl
        obtain ⟨x, hx⟩ : ∃ x, overMax r b j = x := ⟨_, rfl⟩
        rw [hx]
        rw [hx] at HOB HO0
        have HX := hid hx
        obtain ⟨pj, hpj⟩ : ∃ x, rAt b j = x := ⟨_, rfl⟩
        obtain ⟨tj, htj⟩ : ∃ x, rN b j = x := ⟨_, rfl⟩
        rw [hpj] at d0
        rw [htj] at d1
        have HPJ := hid hpj
        have HTJ := hid htj
        clear hpj htj hx
        cases g : wth pj 0 ((r.pn : Int) - 1) with
        | false =>
          have HR := hid (ZN.out j hlt (by rw [askV, HPJ.out, ← HPN.out, g]; rfl))
          go_wp2_with fail
          go_quiet ((go_at_call 36; exact Calls.quiet_of_same (within_any _ _ _ _)))
          go_wp2
          go_ret2
          exact ⟨by rw [HR.out]; rfl, below_from B3.out (below_drewN HB.out _)⟩
        | true =>
          cases gt : wth tj 0 48 with
          | false =>
            have HR := hid (ZN.out j hlt (by rw [askV, HTJ.out, gt]; simp))
            go_wp2_with fail
            go_quiet ((go_at_call 36; exact Calls.quiet_of_same (within_any _ _ _ _)))
            go_wp2
            go_ret2
            exact ⟨by rw [HR.out]; rfl, below_from B3.out (below_drewN HB.out _)⟩
          | true =>
            have hpw := of_decide_eq_true g
            have htw := of_decide_eq_true gt
            have HA1 : Hid (allN (fun i => askV r (rAt b i) (rN b i)) (j + 1) = true) := by
              show allN (fun i => askV r (rAt b i) (rN b i)) (j + 1) = true
              rw [allN, HA.out, askV, HPJ.out, HTJ.out, ← HPN.out, g, gt]; rfl
            obtain ⟨P, rfl⟩ := Int.eq_ofNat_of_zero_le hpw.1
            have hP : P < r.pn := by omega
            have hP' : (P : Int) < r.pn := by omega
            obtain ⟨L, hL⟩ : ∃ L, rAt r.ps P = L := ⟨_, rfl⟩
            have hLB : 1 ≤ L ∧ L ≤ 24 := by
              have := piece_at HC0.out (k := P) (by have := HPN.out; omega)
              rw [hL] at this
              exact ⟨this.1, this.2.1⟩
            have q0 : wr.cell? ⟨pb, po + P * 2, none⟩ = some (.int .i64 L) := by rw [← hL]; exact cell_later HB.out (HPB.out P hP)
            have HOV : Hid (overMax r b (j + 1) = max x (tj + L)) := by
              show overMax r b (j + 1) = max x (tj + L)
              rw [overMax, HX.out, overAt, lenOf, HPJ.out, HTJ.out, Int.toNat_natCast, hL]
            have hws : IntKind.i64.wrap (tj + L) = tj + L := by rw [IntKind.wrap_i64]; omega
            have HLB := hid hLB
            have HTW := hid htw
            clear hL hpw htw hLB
            go_wp2_with fail
            go_quiet ((go_at_call 36; exact Calls.quiet_of_same (within_any _ _ _ _)))
            go_wp2_with fail
            go_quiet (fail)
            by_cases j0 : (j : Int) = 0
            · have e1 : Hid (max x (tj + L) = tj + L) := by
                have := HOB.out; have := HLB.out; have := HTW.out; have := HO0.out (by omega)
                show max x (tj + L) = tj + L
                omega
              have j0' : ((j : Int) == 0) = true := by simp [j0]
              have J0 := hid j0
              clear j0
              go_wp2
              go_roundw
              case rel => exact ⟨j + 1, by go_num, by omega, by rw [HOV.out, e1.out], HA1.out, below_drewN HB.out _⟩
              case measure => simp [intOf]; omega
            · have j0' : ((j : Int) == 0) = false := by simp; omega
              by_cases x1 : x < tj + L
              · have e1 : Hid (max x (tj + L) = tj + L) := by show max x (tj + L) = tj + L; omega
                go_wp2
                go_roundw
                case rel => exact ⟨j + 1, by go_num, by omega, by rw [HOV.out, e1.out], HA1.out, below_drewN HB.out _⟩
                case measure => simp [intOf]; omega
              · have e1 : Hid (max x (tj + L) = x) := by show max x (tj + L) = x; omega
                go_wp2
                go_roundw
                case rel => exact ⟨j + 1, by go_num, by omega, by rw [HOV.out, e1.out], HA1.out, below_drewN HB.out _⟩
                case measure => simp [intOf]; omega
      · obtain rfl : j = bn := by omega
        have HR := hid (ZY.out HA.out)
        go_wp2
        go_ret2
        exact ⟨by rw [HR.out]; rfl, below_from B3.out HB.out⟩
  · have ho := overOk_no (show overOk r b = false by rw [overOk, decide_eq_false g1]; rfl)
    rw [ho.1, ho.2]
    have hx0 : decide (chkR false r = 0) = false := decide_eq_false g1
    rw [hx0] at K1
    clear hx0 g1 ho g2
    go_enter Try.func10, Try.ntmps10
    go_wp2_with fail
    refine (K1.out _ B1.out).mono ?_
    rintro e w1 ⟨rfl, B2⟩
    have B3 := hid (below_from B1.out B2)
    clear B2
    go_wp2
    go_ret2
    exact ⟨rfl, B3.out⟩
end Go.Proofs.Ytcgchicdmgllaab
