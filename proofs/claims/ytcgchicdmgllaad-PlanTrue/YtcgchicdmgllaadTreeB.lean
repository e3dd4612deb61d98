/- Contracts of tree.badCap, with the library's ContainsFunc and IndexFunc on runs, and of the reference's CapFine. -/
import Derived.Test.YtcgchicdmgllaadRunsC
namespace Go.Proofs.Ytcgchicdmgllaad
open Go.RowKit

def capOk (x : Int) : Bool := decide (0 ≤ x ∧ x ≤ 50)
def capTo (l : RunL) : Nat → Bool
  | 0 => true
  | k + 1 => capTo l k && capOk (rN l k)
def capFine (l : RunL) : Bool := fine l && capTo l l.length
theorem capTo_false {l : RunL} {k : Nat} (h : capOk (rN l k) = false) : ∀ n, k < n → capTo l n = false
  | 0, hn => by omega
  | n + 1, hn => by
    by_cases e : k = n
    · subst e; simp [capTo, h]
    · rw [capTo, capTo_false h n (by omega)]; rfl
theorem capOk_wth (x : Int) : wth x 0 50 = capOk x := rfl

theorem badCap1_any (x y : Int) (w : World) : Calls Try.prog 97 #[.agg #[.int .i64 x, .int .i64 y]] w fun e w' => e = .returned (.bool (!capOk y)) ∧ Below w.heap.size w w' := by
  go_enter Try.func97, Try.ntmps97
  go_wp2
  all_goals
    go_ret
    refine ⟨ret_bool ?_, (Below.refl _ _).alloc (Nat.le_refl _) _⟩
    rw [Bool.eq_iff_iff]
    simp [capOk]
    try omega

set_option maxHeartbeats 400000 in
theorem IndexRuns_some (w : World) (b off n cap : Nat) (l : RunL) (h : RunsIn w (some ⟨b, off, none⟩) n cap l) (hp : 0 < n) :
    Calls Try.prog 103 #[.slice (some ⟨b, off, none⟩) n cap, .func (.func 97) #[] #[]] w fun e w' => ∃ r : Int, e = .returned (.int .i64 r) ∧ (decide (0 ≤ r)) = (!capTo l n) ∧ Below w.heap.size w w' := by
  have HN := hid h.len
  have hle := h.le
  have hbd := h.bound
  obtain ⟨b', off', e, hc⟩ := h.cells hp
  cases e
  have HC := hid hc
  clear hc
  go_enter Try.func103, Try.ntmps103
  go_wp2
  go_loopw [5, 8] (fun _ st wr => ∃ k : Nat, st = .int .i64 k ∧ k ≤ n ∧ capTo l k = true ∧ Below w.heap.size w wr) (fun _ st _ => n - (intOf st).toNat)
  case atStart => exact ⟨0, rfl, by omega, rfl, Below.refl _ _⟩
  case round =>
    obtain ⟨k, rfl, hk, hcap, hbel⟩ := hrel
    have HA := hid hcap
    have HB := hid hbel
    clear hcap hbel
    by_cases hlt : k < n
    · have hlt' : (k : Int) < n := by omega
      have c0 := cell_later HB.out (HC.out k hlt).1
      have c1 := cell_later HB.out (HC.out k hlt).2
      cases g : capOk (rN l k) with
      | false =>
        go_wp2_with (go_at_call 97; refine (badCap1_any _ _ _).mono ?_; rintro e w1 ⟨rfl, hb1⟩; rw [g])
        go_ret
        exact ⟨_, rfl, by rw [capTo_false g n hlt]; simp, below_from HB.out hb1⟩
      | true =>
        go_wp2_with (go_at_call 97; refine (badCap1_any _ _ _).mono ?_; rintro e w1 ⟨rfl, hb1⟩; have HB1 := hid hb1; clear hb1; rw [g])
        go_roundw
        case rel => exact ⟨k + 1, by go_num, by omega, by rw [capTo, HA.out, g]; rfl, below_from HB.out HB1.out⟩
        case measure => simp [intOf]; omega
    · obtain rfl : k = n := by omega
      go_wp2
      go_ret
      exact ⟨_, rfl, by rw [HA.out]; rfl, HB.out⟩
theorem IndexRuns_none (w : World) (a : Option Addr) (cap : Nat) (k : Nat) :
    Calls Try.prog 103 #[.slice a 0 cap, .func (.func k) #[] #[]] w fun e w' => e = .returned (.int .i64 (-1)) ∧ w' = w := by
  go_enter Try.func103, Try.ntmps103
  go_wp2
  go_loop [5, 8] (fun _ st => st = .int .i64 0) (fun _ _ => 0)
  case atStart => rfl
  case round =>
    subst hrel
    go_wp2
    go_ret
    exact ⟨rfl, rfl⟩
theorem IndexRuns_any (w : World) (a : Option Addr) (n cap : Nat) (l : RunL) (h : RunsIn w a n cap l) :
    Calls Try.prog 103 #[.slice a n cap, .func (.func 97) #[] #[]] w fun e w' => ∃ r : Int, e = .returned (.int .i64 r) ∧ (decide (0 ≤ r)) = (!capTo l n) ∧ Below w.heap.size w w' := by
  by_cases hp : 0 < n
  · obtain ⟨b, off, rfl, _⟩ := h.cells hp
    exact IndexRuns_some w b off n cap l h hp
  · obtain rfl : n = 0 := by omega
    refine (IndexRuns_none w a cap 97).mono ?_
    rintro e w' ⟨rfl, rfl⟩
    exact ⟨_, rfl, rfl, Below.refl _ _⟩
theorem ContainsRuns_any (w : World) (a : Option Addr) (n cap : Nat) (l : RunL) (h : RunsIn w a n cap l) :
    Calls Try.prog 96 #[.slice a n cap, .func (.func 97) #[] #[]] w fun e w' => e = .returned (.bool (!capTo l n)) ∧ Below w.heap.size w w' := by
  go_enter Try.func96, Try.ntmps96
  go_wp2_with fail
  refine (IndexRuns_any w a n cap l h).mono ?_
  rintro e w1 ⟨r, rfl, hr, hb⟩
  have HR := hid hr
  clear hr
  go_wp2
  go_ret
  exact ⟨ret_bool HR.out, hb⟩

theorem badCap_any (w : World) (a : Option Addr) (n cap : Nat) (l : RunL) (h : RunsIn w a n cap l) :
    Calls Try.prog 87 #[.slice a n cap] w fun e w' => e = .returned (.bool (!capFine l)) ∧ Below w.heap.size w w' := by
  have HN := hid h.len
  cases hf : fine l with
  | false =>
    have hk : chk l = 1 := by simp [chk, hf]
    have hr : capFine l = false := by simp [capFine, hf]
    rw [hr]
    go_enter Try.func87, Try.ntmps87
    go_wp2_with fail
    refine (Check_any w a n cap l h).mono ?_
    rintro e w1 ⟨rfl, hb⟩
    rw [hk]
    go_wp2
    go_ret
    exact ⟨rfl, hb⟩
  | true =>
    have hk : chk l = 0 := by simp [chk, hf]
    have hr : capFine l = capTo l n := by rw [capFine, hf, HN.out]; rfl
    rw [hr]
    go_enter Try.func87, Try.ntmps87
    go_wp2_with fail
    refine (Check_any w a n cap l h).mono ?_
    rintro e w1 ⟨rfl, hb⟩
    rw [hk]
    go_wp2_with fail
    refine (ContainsRuns_any w1 a n cap l (h.later hb)).mono ?_
    rintro e w2 ⟨rfl, hb2⟩
    go_wp2
    go_ret
    exact ⟨rfl, below_from hb hb2⟩

end Go.Proofs.Ytcgchicdmgllaad
