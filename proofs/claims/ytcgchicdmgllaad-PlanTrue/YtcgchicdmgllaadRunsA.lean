/- Contracts of the leaf functions on runs: bounded, span, within, isTime, reach, runs.Check and its reference RunsFine answer what the plain functions say of the list of runs that lies in memory. -/
import Derived.Test.YtcgchicdmgllaadProg
import Derived.Test.YtcgchicdmgllaadMath
import Derived.WalkKit
import Derived.WalkSpells
import Derived.WalkLawsBesides
import Derived.Deep.QuietTactic
import Derived.BigQuiet
namespace Go.Proofs.Ytcgchicdmgllaad
open Go.RowKit

theorem ret_bool {a b : Bool} (h : a = b) : Ending.returned (.bool a) = .returned (.bool b) := by rw [h]
theorem ret_int {k : IntKind} {a b : Int} (h : a = b) : Ending.returned (.int k a) = .returned (.int k b) := by rw [h]

theorem bounded_any (n : Int) (w : World) : Calls Try.prog 69 #[.int .i64 n] w fun e w' => e = .returned (.bool (bdd n)) ∧ w' = w := by
  go_enter Try.func69, Try.ntmps69
  go_wp2
  all_goals
    go_ret
    exact ⟨ret_bool (by simp [bdd]; omega), rfl⟩
theorem span_any (a b : Int) (w : World) : Calls Try.prog 37 #[.int .i64 a, .int .i64 b] w fun e w' => e = .returned (.bool (spn a b)) ∧ w' = w := by
  go_enter Try.func37, Try.ntmps37
  go_wp2
  all_goals
    go_ret
    refine ⟨ret_bool ?_, rfl⟩
    simp only [spn]
    rw [Bool.eq_iff_iff]
    simp
    try omega
structure RunsIn (w : World) (a : Option Addr) (n cap : Nat) (l : RunL) : Prop where
  len : n = l.length
  le : n ≤ cap
  bound : n ≤ 9223372036854775807
  capb : cap ≤ 9223372036854775807
  cells : 0 < n → ∃ b off, a = some ⟨b, off, none⟩ ∧ ∀ i, i < n → w.cell? ⟨b, off + i * 2, none⟩ = some (.int .i64 (rAt l i)) ∧ w.cell? ⟨b, off + i * 2 + 1, none⟩ = some (.int .i64 (rN l i))

def chk (l : RunL) : Int := if fine l then 0 else 1
theorem reach_any (w : World) (b off n cap : Nat) (l : RunL) (i : Nat) (t : Int) (h : RunsIn w (some ⟨b, off, none⟩) n cap l) (hi : i < n) :
   Calls Try.prog 38 #[.slice (some ⟨b, off, none⟩) n cap, .int .i64 i, .int .i64 t] w fun e w' => ∃ j : Nat, e = .returned (.int .i64 j) ∧ i ≤ j ∧ j < n ∧ (i < j → rAt l j ≤ t) ∧ (j + 1 < n → t < rAt l (j + 1)) ∧ w' = w := by
  obtain ⟨hn, hle, hb, hcb, hc⟩ := h
  obtain ⟨b', off', e, hc⟩ := hc (by omega)
  cases e
  go_enter Try.func38, Try.ntmps38
  go_wp2
  go_loop [1] (fun s => ∃ j : Nat, s = .int .i64 j ∧ i ≤ j ∧ j < n ∧ (i < j → rAt l j ≤ t)) (fun s => n - (intOf s).toNat)
  case atStart => exact ⟨i, rfl, Nat.le_refl _, hi, fun h => by omega⟩
  case round =>
    obtain ⟨j, rfl, h1, h2, h3⟩ := hrel
    by_cases hj : j + 1 < n
    · have hcell := (hc (j + 1) hj).1
      have hj' : (j : Int) + 1 < n := by omega
      clear hc hn
      go_wp2
      · have hle : rAt l (j + 1) ≤ t := by assumption
        go_round
        case rel => exact ⟨j + 1, by go_num, by omega, hj, fun _ => hle⟩
        case measure => simp [intOf]; omega
      · have hgt : t < rAt l (j + 1) := by assumption
        go_ret
        exact ⟨j, rfl, h1, h2, h3, fun _ => hgt, rfl⟩
    · have hj' : ¬ (j : Int) + 1 < n := by omega
      clear hc hn
      go_wp2
      go_ret
      exact ⟨j, rfl, h1, h2, h3, fun h => absurd h hj, rfl⟩



theorem chk_bad {l : RunL} {n : Nat} (hn : Hid (n = l.length)) {j : Nat} (hj : j < n) (h : ¬ okAt l j) : chk l = 1 := by
  have : fine l = false := fine_not.2 fun hf => h (hf.2 j (by have := hn.out; omega))
  simp [chk, this]
theorem chk_good {l : RunL} {n : Nat} (hn : Hid (n = l.length)) (hp : 0 < n) (h : ∀ i, i < n → okAt l i) : chk l = 0 := by
  have : fine l = true := fine_iff.2 ⟨by have := hn.out; omega, fun i hi => h i (by have := hn.out; omega)⟩
  simp [chk, this]
theorem ok_snoc {l : RunL} {j : Nat} (h : Hid (∀ i, i < j → okAt l i)) (hj : okAt l j) : ∀ i, i < j + 1 → okAt l i := by
  intro i hi
  by_cases e : i = j
  · subst e; exact hj
  · exact h.out i (by omega)

set_option maxHeartbeats 400000 in
theorem Check_some (w : World) (b off n cap : Nat) (l : RunL) (h : RunsIn w (some ⟨b, off, none⟩) n cap l) (hp : 0 < n) :
   Calls Try.prog 36 #[.slice (some ⟨b, off, none⟩) n cap] w fun e w' => e = .returned (.int .i64 (chk l)) ∧ Below w.heap.size w w' := by
  obtain ⟨hn, hle, hb, hcb, hc⟩ := h
  have HN : Hid (n = l.length) := hn
  clear hn
  obtain ⟨b', off', e, hc⟩ := hc (by omega)
  cases e
  have hc0 := (hc 0 hp).1
  simp only [Nat.zero_mul, Nat.add_zero] at hc0
  have hp' : (0 : Int) < n := by omega
  have hne : ((n : Int) == 0) = false := by simp; omega
  have hlt : b < w.heap.size := block_lt_of_cell hc0
  by_cases h0 : rAt l 0 = 0
  · have h0' : (rAt l 0 != 0) = false := by simp [h0]
    have H0 : Hid (rAt l 0 = 0) := h0
    clear h0
    go_enter Try.func36, Try.ntmps36
    go_wp2
    go_loopw [17] (fun s wr => ∃ j : Nat, s = .int .i64 j ∧ j ≤ n ∧ (∀ i, i < j → okAt l i) ∧ Below w.heap.size w wr) (fun s _ => n - (intOf s).toNat)
    case atStart => exact ⟨0, rfl, by omega, fun i hi => by omega, Below.refl _ _⟩
    case round =>
      obtain ⟨j, rfl, h1, h2, hbel⟩ := hrel
      have H2 : Hid (∀ i, i < j → okAt l i) := h2
      clear h2
      by_cases hj : j < n
      · have hj' : (j : Int) < n := by omega
        have c0 : wr.cell? ⟨b, off + j * 2, none⟩ = some (.int .i64 (rAt l j)) := (hbel.cell (p := ⟨b, off + j * 2, none⟩) hlt).trans (hc j hj).1
        have c1 : wr.cell? ⟨b, off + j * 2 + 1, none⟩ = some (.int .i64 (rN l j)) := (hbel.cell (p := ⟨b, off + j * 2 + 1, none⟩) hlt).trans (hc j hj).2
        clear hc0
        have hlt' : b < wr.heap.size := Nat.lt_of_lt_of_le hlt hbel.size
        have hbel' : Hid (Below w.heap.size w (wr.alloc (.cells #[.int .i64 (rAt l j), .int .i64 (rN l j)] 70))) := hbel.alloc hbel.size _
        by_cases g1 : 48 ≤ rAt l j
        · go_wp2
          go_ret
          exact ⟨ret_int (chk_bad HN hj (fun h => by have := h.2.1; omega)).symm, hbel'.out⟩
        cases g2 : bdd (rN l j) with
        | false =>
          go_wp2_with (go_at_call 69; refine (bounded_any _ _).mono ?_; rintro e w' ⟨rfl, rfl⟩)
          go_ret
          exact ⟨ret_int (chk_bad HN hj (fun h => by have := h.2.2.1; simp [g2] at this)).symm, hbel'.out⟩
        | true =>
          cases j with
          | zero =>
            have g3 : decide ((0 : Int) < 0) = false := by decide
            simp only [Nat.zero_mul, Nat.add_zero] at c0 c1
            go_wp2_with (go_at_call 69; refine (bounded_any _ _).mono ?_; rintro e w' ⟨rfl, rfl⟩)
            go_quiet (fail)
            go_wp2
            go_roundw
            case rel => exact ⟨1, rfl, by omega, ok_snoc H2 ⟨fun _ => H0.out, by omega, g2, fun h => by omega⟩, below_drewN hbel'.out _⟩
            case measure => simp [intOf]; omega
          | succ k => 
            have g3 : decide ((0 : Int) < ↑k + 1) = true := by simp
            have hk' : (k : Int) < n := by omega
            have hwk : IntKind.i64.wrap (k : Int) = k := by rw [IntKind.wrap_i64]; omega
            have d0 : wr.cell? ⟨b, off + k * 2, none⟩ = some (.int .i64 (rAt l k)) := (hbel.cell (p := ⟨b, off + k * 2, none⟩) hlt).trans (hc k (by omega)).1
            have d1 : wr.cell? ⟨b, off + k * 2 + 1, none⟩ = some (.int .i64 (rN l k)) := (hbel.cell (p := ⟨b, off + k * 2 + 1, none⟩) hlt).trans (hc k (by omega)).2
            by_cases g4 : rAt l (k + 1) ≤ rAt l k
            · have g4' : decide (rAt l (k + 1) ≤ rAt l k) = true := by simpa using g4
              go_wp2_with (go_at_call 69; refine (bounded_any _ _).mono ?_; rintro e w' ⟨rfl, rfl⟩)
              go_quiet (fail)
              go_wp2
              go_ret
              exact ⟨ret_int (chk_bad HN hj (fun h => by have := (h.2.2.2 (by omega)).1; simp only [Nat.add_sub_cancel] at this; omega)).symm, below_drewN hbel'.out _⟩
            · have g4' : decide (rAt l (k + 1) ≤ rAt l k) = false := by simpa using g4
              go_wp2_with (go_at_call 69; refine (bounded_any _ _).mono ?_; rintro e w' ⟨rfl, rfl⟩)
              go_quiet (fail)
              go_wp2
              · have g5 : (rN l (k + 1) == rN l k) = true := by assumption
                go_ret
                exact ⟨ret_int (chk_bad HN hj (fun h => by have := (h.2.2.2 (by omega)).2; simp only [Nat.add_sub_cancel] at this; exact this (eq_of_beq g5))).symm, below_drewN hbel'.out _⟩
              · have g5 : (rN l (k + 1) == rN l k) = false := by assumption
                go_roundw
                case rel => exact ⟨k + 1 + 1, by go_num, by omega, ok_snoc H2 ⟨fun h => by omega, by omega, g2, fun _ => ⟨by simp only [Nat.add_sub_cancel]; omega, by simp only [Nat.add_sub_cancel]; exact ne_of_beq_false g5⟩⟩, below_drewN hbel'.out _⟩
                case measure => simp [intOf]; omega
      · have hj' : ¬ (j : Int) < n := by omega
        obtain rfl : j = n := by omega
        go_wp2
        go_ret
        exact ⟨ret_int (chk_good HN hp H2.out).symm, hbel⟩
  · have h0' : (rAt l 0 != 0) = true := by simp [h0]
    go_enter Try.func36, Try.ntmps36
    go_wp2
    go_ret
    exact ⟨ret_int (chk_bad HN hp (fun h => h0 (h.1 rfl))).symm, Below.refl _ _⟩

theorem Check_none (w : World) (a : Option Addr) (cap : Nat) :
   Calls Try.prog 36 #[.slice a 0 cap] w fun e w' => e = .returned (.int .i64 (chk [])) ∧ w' = w := by
  go_enter Try.func36, Try.ntmps36
  go_wp2
  go_ret
  exact ⟨ret_int (by rfl), rfl⟩

theorem Check_any (w : World) (a : Option Addr) (n cap : Nat) (l : RunL) (h : RunsIn w a n cap l) :
   Calls Try.prog 36 #[.slice a n cap] w fun e w' => e = .returned (.int .i64 (chk l)) ∧ Below w.heap.size w w' := by
  by_cases hp : 0 < n
  · obtain ⟨b, off, rfl, _⟩ := h.cells hp
    exact Check_some w b off n cap l h hp
  · obtain rfl : n = 0 := by omega
    obtain rfl : l = [] := by have := h.len; exact List.eq_nil_of_length_eq_zero this.symm
    refine (Check_none w a cap).mono ?_
    rintro e w' ⟨rfl, rfl⟩
    exact ⟨rfl, Below.refl _ _⟩
theorem fine_bad {l : RunL} {n : Nat} (hn : Hid (n = l.length)) {j : Nat} (hj : j < n) (h : ¬ okAt l j) : fine l = false :=
  fine_not.2 fun hf => h (hf.2 j (by have := hn.out; omega))
theorem fine_good {l : RunL} {n : Nat} (hn : Hid (n = l.length)) (hp : 0 < n) (h : ∀ i, i < n → okAt l i) : fine l = true :=
  fine_iff.2 ⟨by have := hn.out; omega, fun i hi => h i (by have := hn.out; omega)⟩
theorem at_nonneg {l : RunL} {j : Nat} (h : ∀ i, i < j → okAt l i) : ∀ i, i < j → 0 ≤ rAt l i := by
  intro i
  induction i with
  | zero => intro hi; rw [(h 0 hi).1 rfl]; exact Int.le_refl _
  | succ i ih =>
    intro hi
    have h1 := ih (by omega)
    have h2 := ((h (i + 1) hi).2.2.2 (by omega)).1
    simp only [Nat.add_sub_cancel] at h2
    omega
theorem time_bad {l : RunL} {j : Nat} (h : Hid (∀ i, i < j → okAt l i)) (ht : wth (rAt l j) 0 47 = false) : ¬ okAt l j := by
  intro hk
  have h1 := at_nonneg (ok_snoc h hk) j (by omega)
  have h2 := hk.2.1
  simp [wth] at ht
  omega

theorem drawn_more {w wr : World} (h : Hid (∃ d, wr = w.drewN d)) (n : Nat) : ∃ d, wr.drewN n = w.drewN d := by
  obtain ⟨d, rfl⟩ := h.out
  exact ⟨d + n, by rw [World.drewN_drewN]⟩
end Go.Proofs.Ytcgchicdmgllaad
