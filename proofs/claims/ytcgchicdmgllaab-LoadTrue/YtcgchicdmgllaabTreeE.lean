/- Contracts of tree.Check and of the reference's CheckTree: the first error that applies. -/
import Derived.Test.YtcgchicdmgllaabTreeD
namespace Go.Proofs.Ytcgchicdmgllaab
open Go.RowKit

def namesOk (l : QL) : Bool := allQ (fun q => isName q.name) l l.length
def capsOk (l : QL) : Bool := allQ (fun q => capFine q.runs) l l.length
/-- B1: Check's answer -/
def chkT (l : QL) : Int :=
  if wth l.length 1 5 = true then (if namesOk l = true then (if nodupTo l l.length = true then (if parTo l l.length = true then (if capsOk l = true then 0 else 1) else 3) else 5) else 4) else 2

set_option maxHeartbeats 400000 in
theorem CheckT_any (w : World) (a : Option Addr) (n cap : Nat) (l : QL) (h : QsIn w a n cap l) :
    Calls Try.prog 39 #[.slice a n cap] w fun e w' => e = .returned (.int .i64 (chkT l)) ∧ Below w.heap.size w w' := by
  have hn := h.len
  have hcb := h.capb
  have hle := h.le
  cases hw : wth l.length 1 5 with
  | false =>
    have hr : chkT l = 2 := by simp [chkT, hw]
    rw [hr]
    rw [← hn] at hw
    simp [wth] at hw
    have HN := hid hn
    clear hn
    by_cases g1 : (n : Int) < 1
    · go_enter Try.func39, Try.ntmps39
      go_wp2
      go_ret
      exact ⟨rfl, Below.refl _ _⟩
    · have g2 : (5 : Int) < n := by omega
      go_enter Try.func39, Try.ntmps39
      go_wp2
      go_ret
      exact ⟨rfl, Below.refl _ _⟩
  | true =>
    have hw' := hw
    rw [← hn] at hw'
    simp [wth] at hw'
    have hp : 0 < n := by omega
    have h5 : n ≤ 5 := by omega
    have g1 : ¬ (n : Int) < 1 := by omega
    have g2 : ¬ (5 : Int) < n := by omega
    have e1 : allQ (fun q => isName q.name) l n = namesOk l := by rw [namesOk, hn]
    have e2 : nodupTo l n = nodupTo l l.length := by rw [hn]
    have e3 : parTo l n = parTo l l.length := by rw [hn]
    have e4 : allQ (fun q => capFine q.runs) l n = capsOk l := by rw [capsOk, hn]
    have K1 := hid fun w1 (hb : Below w.heap.size w w1) => ContainsQs_any 68 _ asks61 w1 a n cap l (h.later hb) hp
    have K2 := hid fun w1 (hb : Below w.heap.size w w1) => sameName_any w1 a n cap l (h.later hb) hp h5
    have K3 := hid fun w1 (hb : Below w.heap.size w w1) => badParent_any w1 a n cap l (h.later hb) hp
    have K4 := hid fun w1 (hb : Below w.heap.size w w1) => ContainsQs_any 72 _ asks64 w1 a n cap l (h.later hb) hp
    rw [e1] at K1
    rw [e2] at K2
    rw [e3] at K3
    rw [e4] at K4
    clear hw' e1 e2 e3 e4
    have HN := hid hn
    clear hn
    cases c1 : namesOk l with
    | false =>
      have hr : chkT l = 4 := by simp [chkT, hw, c1]
      rw [hr]
      go_enter Try.func39, Try.ntmps39
      go_wp2_with fail
      refine (K1.out w (Below.refl _ _)).mono ?_
      rintro e w1 ⟨rfl, B1⟩
      rw [c1]
      go_wp2
      go_ret
      exact ⟨rfl, B1⟩
    | true =>
    cases c2 : nodupTo l l.length with
    | false =>
      have hr : chkT l = 5 := by simp [chkT, hw, c1, c2]
      rw [hr]
      go_enter Try.func39, Try.ntmps39
      go_wp2_with fail
      refine (K1.out w (Below.refl _ _)).mono ?_
      rintro e w1 ⟨rfl, B1⟩
      rw [c1]
      go_wp2_with fail
      refine (K2.out w1 B1).mono ?_
      rintro e w2 ⟨rfl, B2⟩
      have B2 := below_from B1 B2
      rw [c2]
      go_wp2
      go_ret
      exact ⟨rfl, B2⟩
    | true =>
    cases c3 : parTo l l.length with
    | false =>
      have hr : chkT l = 3 := by simp [chkT, hw, c1, c2, c3]
      rw [hr]
      go_enter Try.func39, Try.ntmps39
      go_wp2_with fail
      refine (K1.out w (Below.refl _ _)).mono ?_
      rintro e w1 ⟨rfl, B1⟩
      rw [c1]
      go_wp2_with fail
      refine (K2.out w1 B1).mono ?_
      rintro e w2 ⟨rfl, B2⟩
      have B2 := below_from B1 B2
      rw [c2]
      go_wp2_with fail
      refine (K3.out w2 B2).mono ?_
      rintro e w3 ⟨rfl, B3⟩
      have B3 := below_from B2 B3
      rw [c3]
      go_wp2
      go_ret
      exact ⟨rfl, B3⟩
    | true =>
      have hr : chkT l = if capsOk l = true then 0 else 1 := by simp [chkT, hw, c1, c2, c3]
      rw [hr]
      cases c4 : capsOk l
      all_goals
        go_enter Try.func39, Try.ntmps39
        go_wp2_with fail
        refine (K1.out w (Below.refl _ _)).mono ?_
        rintro e w1 ⟨rfl, B1⟩
        rw [c1]
        go_wp2_with fail
        refine (K2.out w1 B1).mono ?_
        rintro e w2 ⟨rfl, B2⟩
        have B2 := below_from B1 B2
        rw [c2]
        go_wp2_with fail
        refine (K3.out w2 B2).mono ?_
        rintro e w3 ⟨rfl, B3⟩
        have B3 := below_from B2 B3
        rw [c3]
        go_wp2_with fail
        refine (K4.out w3 B3).mono ?_
        rintro e w4 ⟨rfl, B4⟩
        have B4 := below_from B3 B4
        rw [c4]
        go_wp2
        go_ret
        exact ⟨ret_int (by rfl), B4⟩

theorem chkT_4 {l : QL} (hw : wth l.length 1 5 = true) (h : namesOk l = false) : chkT l = 4 := by simp [chkT, hw, h]
theorem chkT_5 {l : QL} (hw : wth l.length 1 5 = true) (h1 : namesOk l = true) (h : nodupTo l l.length = false) : chkT l = 5 := by simp [chkT, hw, h, h1]
theorem chkT_3 {l : QL} (hw : wth l.length 1 5 = true) (h1 : namesOk l = true) (h2 : nodupTo l l.length = true) (h : parTo l l.length = false) : chkT l = 3 := by simp [chkT, hw, h, h1, h2]
theorem chkT_1 {l : QL} (hw : wth l.length 1 5 = true) (h1 : namesOk l = true) (h2 : nodupTo l l.length = true) (h3 : parTo l l.length = true) (h : capsOk l = false) : chkT l = 1 := by simp [chkT, hw, h, h1, h2, h3]
theorem chkT_0 {l : QL} (hw : wth l.length 1 5 = true) (h1 : namesOk l = true) (h2 : nodupTo l l.length = true) (h3 : parTo l l.length = true) (h : capsOk l = true) : chkT l = 0 := by simp [chkT, hw, h, h1, h2, h3]
theorem sameBefore_at {l : QL} {k i : Nat} (hi : i < k) (h : (nm l i == nm l k) = true) : sameBefore l k k = true := sameBefore_iff.2 ⟨i, hi, eq_of_beq h⟩

set_option maxHeartbeats 2000000 in
theorem CheckTree_any (w : World) (a : Option Addr) (n cap : Nat) (l : QL) (h : QsIn w a n cap l) :
    Calls Try.prog 42 #[.slice a n cap] w fun e w' => e = .returned (.int .i64 (chkT l)) ∧ Below w.heap.size w w' := by
  have hn := h.len
  have hcb := h.capb
  have hle := h.le
  cases hw : wth l.length 1 5 with
  | false =>
    have hr : chkT l = 2 := by simp [chkT, hw]
    rw [hr]
    rw [← hn] at hw
    have HN := hid hn
    clear hn
    go_enter Try.func42, Try.ntmps42
    go_wp2_with (go_at_call 36; refine (within_any _ _ _ _).mono ?_; rintro e w' ⟨rfl, rfl⟩; rw [hw])
    go_ret
    exact ⟨rfl, Below.refl _ _⟩
  | true =>
    have HW := hid hw
    rw [← hn] at hw
    have hw' := of_decide_eq_true hw
    have hp : 0 < n := by omega
    have h5 : n ≤ 5 := by omega
    have HN := hid hn
    clear hn hw'
    obtain ⟨b, off, rfl, hc⟩ := h.cells hp
    have HC := hid hc
    clear hc
    go_enter Try.func42, Try.ntmps42
    go_wp2_with (go_at_call 36; refine (within_any _ _ _ _).mono ?_; rintro e w' ⟨rfl, hw'⟩; rw [hw', hw])
    go_loop [3] (fun st => ∃ k : Nat, st = .int .i64 k ∧ k ≤ n ∧ allQ (fun q => isName q.name) l k = true) (fun st => n - (intOf st).toNat)
    case atStart => exact ⟨0, rfl, by omega, rfl⟩
    case round =>
      obtain ⟨k, rfl, hk, hall⟩ := hrel
      have HA := hid hall
      clear hall
      by_cases hlt : k < n
      · have hlt' : (k : Int) < n := by omega
        have c0 := (HC.out k hlt).1
        cases g : isName (qu l k).name with
        | false =>
          go_wp2_with fail
          refine (IsName_any _ w (h.names k hlt)).mono ?_
          rintro e w' ⟨rfl, hw2⟩
          rw [hw2, g]
          go_wp2
          go_ret
          exact ⟨ret_int (chkT_4 HW.out (by rw [namesOk, ← HN.out]; exact allQ_false (p := fun q => isName q.name) g n hlt)).symm, Below.refl _ _⟩
        | true =>
          go_wp2_with fail
          refine (IsName_any _ w (h.names k hlt)).mono ?_
          rintro e w' ⟨rfl, hw2⟩
          rw [hw2, g]
          go_wp2
          go_round
          case rel => exact ⟨k + 1, by go_num, by omega, by rw [allQ, HA.out, g]; rfl⟩
          case measure => simp [intOf]; omega
      · obtain rfl : n = k := by omega
        have C1 : Hid (namesOk l = true) := by show namesOk l = true; rw [namesOk, ← HN.out]; exact HA.out
        clear HA
        go_wp2_with fail
        go_loopw [4, 5] (fun st _ wr => ∃ j : Nat, st = .int .i64 j ∧ j ≤ n ∧ nodupTo l j = true ∧ ∃ d, wr = w.drewN d) (fun st _ _ => n - (intOf st).toNat)
        case atStart => exact ⟨0, rfl, by omega, rfl, 0, rfl⟩
        case round =>
          obtain ⟨j, rfl, hj, hall, hd⟩ := hrel
          have HA := hid hall
          have HD := hid hd
          clear hall hd
          by_cases hlt : j < n
          · have hlt' : (j : Int) < n := by omega
            obtain ⟨wo, hwo⟩ : ∃ wo : World, wo = wr := ⟨_, rfl⟩
            rw [← hwo] at HD
            rw [← hwo]
            clear hwo wr
            go_wp2_with fail
            go_loopw [5] (fun st wr => ∃ i : Nat, st = .int .i64 i ∧ i ≤ j ∧ sameBefore l j i = false ∧ ∃ d, wr = w.drewN d) (fun st _ => j - (intOf st).toNat)
            case atStart => exact ⟨0, rfl, by omega, rfl, HD.out⟩
            case round =>
              obtain ⟨i, rfl, hi, hno, hd⟩ := hrel
              have HI := hid hno
              have HD2 := hid hd
              clear hno
              have hcr : ∀ a, wr.cell? a = w.cell? a := by obtain ⟨d, rfl⟩ := hd; exact fun a => rfl
              clear hd
              by_cases hil : i < j
              · have hil' : (i : Int) < j := by omega
                have hin' : (i : Int) < n := by omega
                have c0 := (hcr _).trans (HC.out i (by omega)).1
                have c1 := (hcr _).trans (HC.out j hlt).1
                clear hcr
                cases g : (nm l i == nm l j) with
                | true =>
                  have g' : ((qu l i).name.toList == (qu l j).name.toList) = true := by rw [ByteArray.toList_eq, ByteArray.toList_eq]; exact g
                  go_wp2
                  go_quiet (fail)
                  go_wp2
                  go_ret
                  exact ⟨ret_int (chkT_5 HW.out C1.out (by rw [← HN.out]; exact nodupTo_false (sameBefore_at hil g) n hlt)).symm, below_drewN (below_of_drawn HD2.out) _⟩
                | false =>
                  have g' : ((qu l i).name.toList == (qu l j).name.toList) = false := by rw [ByteArray.toList_eq, ByteArray.toList_eq]; exact g
                  go_wp2
                  go_quiet (fail)
                  go_wp2
                  go_roundw
                  case rel => exact ⟨i + 1, by go_num, by omega, by rw [sameBefore, HI.out, g]; rfl, drawn_more HD2 _⟩
                  case measure => simp [intOf]; omega
              · obtain rfl : j = i := by omega
                clear hcr
                go_wp2
                go_roundw
                case rel => exact ⟨j + 1, by go_num, by omega, by rw [nodupTo, HA.out, HI.out]; rfl, HD2.out⟩
                case measure => simp [intOf]; omega
          · obtain rfl : n = j := by omega
            have C2 : Hid (nodupTo l l.length = true) := by show nodupTo l l.length = true; rw [← HN.out]; exact HA.out
            have hcr : ∀ a, wr.cell? a = w.cell? a := by obtain ⟨d, rfl⟩ := HD.out; exact fun a => rfl
            obtain ⟨wo, hwo⟩ : ∃ wo : World, wo = wr := ⟨_, rfl⟩
            rw [← hwo] at HD hcr
            rw [← hwo]
            have HCO : Hid (∀ i, i < n → wo.cell? ⟨b, off + i * 3, none⟩ = some (.string (qu l i).name) ∧ wo.cell? ⟨b, off + i * 3 + 1, none⟩ = some (.int .i64 (qu l i).parent) ∧ wo.cell? ⟨b, off + i * 3 + 2, none⟩ = some (.slice (qu l i).ca (qu l i).cn (qu l i).cc)) := fun i hi => ⟨(hcr _).trans (HC.out i hi).1, (hcr _).trans (HC.out i hi).2.1, (hcr _).trans (HC.out i hi).2.2⟩
            clear hwo hcr wr HA
            go_wp2_with fail
            go_loop [6] (fun st => ∃ k : Nat, st = .int .i64 k ∧ k ≤ n ∧ parTo l k = true) (fun st => n - (intOf st).toNat)
            case atStart => exact ⟨0, rfl, by omega, rfl⟩
            case round =>
              obtain ⟨k, rfl, hk, hall⟩ := hrel
              have HA := hid hall
              clear hall
              by_cases hlt : k < n
              · have hlt' : (k : Int) < n := by omega
                have c0 := (HCO.out k hlt).2.1
                have hwe : Hid (wth (qu l k).parent (-1) ((k : Int) - 1) = decide (-1 ≤ (qu l k).parent ∧ (qu l k).parent < k)) := by
                  show wth (qu l k).parent (-1) ((k : Int) - 1) = decide (-1 ≤ (qu l k).parent ∧ (qu l k).parent < k)
                  rw [wth, Bool.eq_iff_iff]; simp; omega
                cases g : decide (-1 ≤ (qu l k).parent ∧ (qu l k).parent < k) with
                | false =>
                  go_wp2_with fail
                  refine (within_any _ _ _ _).mono ?_
                  rintro e w' ⟨rfl, hw2⟩
                  rw [hw2, hwe.out, g]
                  go_wp2
                  go_ret
                  exact ⟨ret_int (chkT_3 HW.out C1.out C2.out (by rw [← HN.out]; exact parTo_false (of_decide_eq_false g) n hlt)).symm, below_of_drawn HD.out⟩
                | true =>
                  go_wp2_with fail
                  refine (within_any _ _ _ _).mono ?_
                  rintro e w' ⟨rfl, hw2⟩
                  rw [hw2, hwe.out, g]
                  go_wp2
                  go_round
                  case rel => exact ⟨k + 1, by go_num, by omega, by rw [parTo, HA.out, g]; rfl⟩
                  case measure => simp [intOf]; omega
              · obtain rfl : n = k := by omega
                have C3 : Hid (parTo l l.length = true) := by show parTo l l.length = true; rw [← HN.out]; exact HA.out
                clear HA
                go_wp2_with fail
                go_loopw [7] (fun st wr => ∃ k : Nat, st = .int .i64 k ∧ k ≤ n ∧ allQ (fun q => capFine q.runs) l k = true ∧ Below wo.heap.size wo wr) (fun st _ => n - (intOf st).toNat)
                case atStart => exact ⟨0, rfl, by omega, rfl, Below.refl _ _⟩
                case round =>
                  obtain ⟨k, rfl, hk, hall, hbel⟩ := hrel
                  have HA := hid hall
                  have HB := hid hbel
                  clear hall hbel
                  by_cases hlt : k < n
                  · have hlt' : (k : Int) < n := by omega
                    have c0 := cell_later HB.out (HCO.out k hlt).2.2
                    have hR := hid (((h.caps k hlt).later (below_of_drawn HD.out)).later HB.out)
                    cases g : capFine (qu l k).runs with
                    | false =>
                      go_wp2_with fail
                      refine (CapFine_any _ _ _ _ _ hR.out).mono ?_
                      rintro e w' ⟨rfl, hb2⟩
                      rw [g]
                      go_wp2
                      go_ret
                      exact ⟨ret_int (chkT_1 HW.out C1.out C2.out C3.out (by rw [capsOk, ← HN.out]; exact allQ_false (p := fun q => capFine q.runs) g n hlt)).symm, below_from (below_from (below_of_drawn HD.out) HB.out) hb2⟩
                    | true =>
                      go_wp2_with fail
                      refine (CapFine_any _ _ _ _ _ hR.out).mono ?_
                      rintro e w' ⟨rfl, hb2⟩
                      have HB2 := hid hb2
                      clear hb2
                      rw [g]
                      go_wp2
                      go_roundw
                      case rel => exact ⟨k + 1, by go_num, by omega, by rw [allQ, HA.out, g]; rfl, below_from HB.out HB2.out⟩
                      case measure => simp [intOf]; omega
                  · obtain rfl : n = k := by omega
                    go_wp2
                    go_ret
                    exact ⟨ret_int (chkT_0 HW.out C1.out C2.out C3.out (by rw [capsOk, ← HN.out]; exact HA.out)).symm, below_from (below_of_drawn HD.out) HB.out⟩
end Go.Proofs.Ytcgchicdmgllaab
