/- Contracts of tree.Check and of the reference's CheckTree: the first error that applies. -/
import Derived.Test.YtcgchicdmgllaadTreeD
namespace Go.Proofs.Ytcgchicdmgllaad
open Go.RowKit

def namesOk (l : QL) : Bool := allQ (fun q => isName q.name) l l.length
def capsOk (l : QL) : Bool := allQ (fun q => capFine q.runs) l l.length
/-- B1: Check's answer -/
def chkT (l : QL) : Int :=
  if wth l.length 1 5 = true then (if namesOk l = true then (if nodupTo l l.length = true then (if parTo l l.length = true then (if capsOk l = true then 0 else 1) else 3) else 5) else 4) else 2

set_option maxHeartbeats 400000 in
theorem CheckT_any (w : World) (a : Option Addr) (n cap : Nat) (l : QL) (h : QsIn w a n cap l) :
    Calls Try.prog 61 #[.slice a n cap] w fun e w' => e = .returned (.int .i64 (chkT l)) ∧ Below w.heap.size w w' := by
  have hn := h.len
  have hcb := h.capb
  have hle := h.le
  cases hw : wth l.length 1 5 with
  | false =>
    have hr : chkT l = 2 := by simp [chkT, hw]
    rw [hr]
    rw [← hn] at hw
    simp [wth] at hw
    have HN := hid hn
    clear hn
    by_cases g1 : (n : Int) < 1
    · go_enter Try.func61, Try.ntmps61
      go_wp2
      go_ret
      exact ⟨rfl, Below.refl _ _⟩
    · have g2 : (5 : Int) < n := by omega
      go_enter Try.func61, Try.ntmps61
      go_wp2
      go_ret
      exact ⟨rfl, Below.refl _ _⟩
  | true =>
    have hw' := hw
    rw [← hn] at hw'
    simp [wth] at hw'
    have hp : 0 < n := by omega
    have h5 : n ≤ 5 := by omega
    have g1 : ¬ (n : Int) < 1 := by omega
    have g2 : ¬ (5 : Int) < n := by omega
    have e1 : allQ (fun q => isName q.name) l n = namesOk l := by rw [namesOk, hn]
    have e2 : nodupTo l n = nodupTo l l.length := by rw [hn]
    have e3 : parTo l n = parTo l l.length := by rw [hn]
    have e4 : allQ (fun q => capFine q.runs) l n = capsOk l := by rw [capsOk, hn]
    have K1 := hid fun w1 (hb : Below w.heap.size w w1) => ContainsQs_any 82 _ asks61 w1 a n cap l (h.later hb) hp
    have K2 := hid fun w1 (hb : Below w.heap.size w w1) => sameName_any w1 a n cap l (h.later hb) hp h5
    have K3 := hid fun w1 (hb : Below w.heap.size w w1) => badParent_any w1 a n cap l (h.later hb) hp
    have K4 := hid fun w1 (hb : Below w.heap.size w w1) => ContainsQs_any 86 _ asks64 w1 a n cap l (h.later hb) hp
    rw [e1] at K1
    rw [e2] at K2
    rw [e3] at K3
    rw [e4] at K4
    clear hw' e1 e2 e3 e4
    have HN := hid hn
    clear hn
    cases c1 : namesOk l with
    | false =>
      have hr : chkT l = 4 := by simp [chkT, hw, c1]
      rw [hr]
      go_enter Try.func61, Try.ntmps61
      go_wp2_with fail
      refine (K1.out w (Below.refl _ _)).mono ?_
      rintro e w1 ⟨rfl, B1⟩
      rw [c1]
      go_wp2
      go_ret
      exact ⟨rfl, B1⟩
    | true =>
    cases c2 : nodupTo l l.length with
    | false =>
      have hr : chkT l = 5 := by simp [chkT, hw, c1, c2]
      rw [hr]
      go_enter Try.func61, Try.ntmps61
      go_wp2_with fail
      refine (K1.out w (Below.refl _ _)).mono ?_
      rintro e w1 ⟨rfl, B1⟩
      rw [c1]
      go_wp2_with fail
      refine (K2.out w1 B1).mono ?_
      rintro e w2 ⟨rfl, B2⟩
      have B2 := below_from B1 B2
      rw [c2]
      go_wp2
      go_ret
      exact ⟨rfl, B2⟩
    | true =>
    cases c3 : parTo l l.length with
    | false =>
      have hr : chkT l = 3 := by simp [chkT, hw, c1, c2, c3]
      rw [hr]
      go_enter Try.func61, Try.ntmps61
      go_wp2_with fail
      refine (K1.out w (Below.refl _ _)).mono ?_
      rintro e w1 ⟨rfl, B1⟩
      rw [c1]
      go_wp2_with fail
      refine (K2.out w1 B1).mono ?_
      rintro e w2 ⟨rfl, B2⟩
      have B2 := below_from B1 B2
      rw [c2]
      go_wp2_with fail
      refine (K3.out w2 B2).mono ?_
      rintro e w3 ⟨rfl, B3⟩
      have B3 := below_from B2 B3
      rw [c3]
      go_wp2
      go_ret
      exact ⟨rfl, B3⟩
    | true =>
      have hr : chkT l = if capsOk l = true then 0 else 1 := by simp [chkT, hw, c1, c2, c3]
      rw [hr]
      cases c4 : capsOk l
      all_goals
        go_enter Try.func61, Try.ntmps61
        go_wp2_with fail
        refine (K1.out w (Below.refl _ _)).mono ?_
        rintro e w1 ⟨rfl, B1⟩
        rw [c1]
        go_wp2_with fail
        refine (K2.out w1 B1).mono ?_
        rintro e w2 ⟨rfl, B2⟩
        have B2 := below_from B1 B2
        rw [c2]
        go_wp2_with fail
        refine (K3.out w2 B2).mono ?_
        rintro e w3 ⟨rfl, B3⟩
        have B3 := below_from B2 B3
        rw [c3]
        go_wp2_with fail
        refine (K4.out w3 B3).mono ?_
        rintro e w4 ⟨rfl, B4⟩
        have B4 := below_from B3 B4
        rw [c4]
        go_wp2
        go_ret
        exact ⟨ret_int (by rfl), B4⟩

theorem chkT_4 {l : QL} (hw : wth l.length 1 5 = true) (h : namesOk l = false) : chkT l = 4 := by simp [chkT, hw, h]
theorem chkT_5 {l : QL} (hw : wth l.length 1 5 = true) (h1 : namesOk l = true) (h : nodupTo l l.length = false) : chkT l = 5 := by simp [chkT, hw, h, h1]
theorem chkT_3 {l : QL} (hw : wth l.length 1 5 = true) (h1 : namesOk l = true) (h2 : nodupTo l l.length = true) (h : parTo l l.length = false) : chkT l = 3 := by simp [chkT, hw, h, h1, h2]
theorem chkT_1 {l : QL} (hw : wth l.length 1 5 = true) (h1 : namesOk l = true) (h2 : nodupTo l l.length = true) (h3 : parTo l l.length = true) (h : capsOk l = false) : chkT l = 1 := by simp [chkT, hw, h, h1, h2, h3]
theorem chkT_0 {l : QL} (hw : wth l.length 1 5 = true) (h1 : namesOk l = true) (h2 : nodupTo l l.length = true) (h3 : parTo l l.length = true) (h : capsOk l = true) : chkT l = 0 := by simp [chkT, hw, h, h1, h2, h3]
theorem sameBefore_at {l : QL} {k i : Nat} (hi : i < k) (h : (nm l i == nm l k) = true) : sameBefore l k k = true := sameBefore_iff.2 ⟨i, hi, eq_of_beq h⟩

end Go.Proofs.Ytcgchicdmgllaad
