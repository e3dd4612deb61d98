/- Plain facts on places: the first time of which something holds; room for so many times. -/
import Derived.Test.YtcgchicdmgllaadRunsM
import Derived.Test.YtcgchicdmgllaadReqM
namespace Go.Proofs.Ytcgchicdmgllaad

/-- the first of a, a + 1, .. below a + k of which p holds -/
def findFrom (p : Nat → Bool) : Nat → Nat → Option Nat
  | _, 0 => none
  | a, k + 1 => if p a = true then some a else findFrom p (a + 1) k
theorem findFrom_some {p : Nat → Bool} {t : Nat} : ∀ {k a : Nat}, findFrom p a k = some t → a ≤ t ∧ t < a + k ∧ p t = true ∧ ∀ s, a ≤ s → s < t → p s = false
  | 0, a, h => by simp [findFrom] at h
  | k + 1, a, h => by
    rw [findFrom] at h
    split at h
    · rename_i hp
      injection h with h
      subst h
      exact ⟨Nat.le_refl _, by omega, hp, fun s h1 h2 => by omega⟩
    · rename_i hp
      obtain ⟨h1, h2, h3, h4⟩ := findFrom_some h
      refine ⟨by omega, by omega, h3, fun s g1 g2 => ?_⟩
      by_cases e : s = a
      · subst e; simpa using hp
      · exact h4 s (by omega) g2
theorem findFrom_none {p : Nat → Bool} : ∀ {k a : Nat}, findFrom p a k = none → ∀ s, a ≤ s → s < a + k → p s = false
  | 0, a, _, s, h1, h2 => by omega
  | k + 1, a, h, s, h1, h2 => by
    rw [findFrom] at h
    split at h
    · cases h
    · rename_i hp
      by_cases e : s = a
      · subst e; simpa using hp
      · exact findFrom_none h s (by omega) (by omega)
theorem findFrom_no {p : Nat → Bool} : ∀ {k a : Nat}, (∀ s, a ≤ s → s < a + k → p s = false) → findFrom p a k = none
  | 0, a, _ => rfl
  | k + 1, a, h => by rw [findFrom, h a (Nat.le_refl _) (by omega), if_neg (by decide), findFrom_no (fun s h1 h2 => h s (by omega) (by omega))]
theorem findFrom_hit {p : Nat → Bool} {a k : Nat} (hk : 0 < k) (h : p a = true) : findFrom p a k = some a := by
  obtain ⟨m, rfl⟩ : ∃ m, k = m + 1 := ⟨k - 1, by omega⟩
  rw [findFrom, if_pos h]
theorem findFrom_miss {p : Nat → Bool} {a k : Nat} (hk : 0 < k) (h : p a = false) : findFrom p a k = findFrom p (a + 1) (k - 1) := by
  obtain ⟨m, rfl⟩ : ∃ m, k = m + 1 := ⟨k - 1, by omega⟩
  rw [findFrom, h, if_neg (by decide)]; rfl
theorem findFrom_congr {p q : Nat → Bool} : ∀ {k a : Nat}, (∀ s, a ≤ s → s < a + k → p s = q s) → findFrom p a k = findFrom q a k
  | 0, _, _ => rfl
  | k + 1, a, h => by rw [findFrom, findFrom, h a (Nat.le_refl _) (by omega), findFrom_congr (k := k) (fun s h1 h2 => h s (by omega) (by omega))]

/-- there are n at least, for L times from t on, all below u -/
def roomy (f : RunL) (u L : Nat) (n : Int) (t : Nat) : Bool := decide (t + L ≤ u) && decide (n ≤ lowTo (vals f) t L)
theorem roomy_iff {f : RunL} {u L t : Nat} {n : Int} (hL : 0 < L) : roomy f u L n t = true ↔ t + L ≤ u ∧ ∀ s, t ≤ s → s < t + L → n ≤ vals f s := by
  rw [roomy, Bool.and_eq_true, decide_eq_true_iff, decide_eq_true_iff]
  obtain ⟨h1, s, h2, h3, h4⟩ := lowTo_low (vals f) t L hL
  constructor
  · rintro ⟨g1, g2⟩
    exact ⟨g1, fun s k1 k2 => by have := h1 s k1 k2; omega⟩
  · rintro ⟨g1, g2⟩
    exact ⟨g1, by rw [h4]; exact g2 s h2 h3⟩
/-- E2: the soonest time from which on there are n at least -/
def firstO (f : RunL) (fr u L : Nat) (n : Int) : Option Nat := findFrom (roomy f u L n) fr (u - fr)
/-- First's three answers -/
def firstR (f : RunL) (fr un size n : Int) : Int × Bool × Int :=
  if fine f = true then (if (spn fr un && wth size 1 24) = true then (match firstO f fr.toNat un.toNat size.toNat n with | some t => ((t : Int), true, 0) | none => (0, false, 0)) else (0, false, 3)) else (0, false, 1)
theorem firstR_hit {f : RunL} {F U L t : Nat} {n : Int} (hf : fine f = true) (hs : (spn F U && wth L 1 24) = true) (h : firstO f F U L n = some t) : firstR f F U L n = ((t : Int), true, 0) := by
  simp only [firstR, hf, hs, if_true, Int.toNat_natCast, h]
theorem firstR_miss {f : RunL} {F U L : Nat} {n : Int} (hf : fine f = true) (hs : (spn F U && wth L 1 24) = true) (h : firstO f F U L n = none) : firstR f F U L n = (0, false, 0) := by
  simp only [firstR, hf, hs, if_true, Int.toNat_natCast, h]
theorem leastR_at {f : RunL} (hf : fine f = true) {t L : Nat} (hL : 0 < L) (h : t + L ≤ 48) : leastR f (t : Int) ((t : Int) + L) = (lowTo (vals f) t L, 0) := by
  have hs : spn (t : Int) ((t : Int) + L) = true := by simp [spn]; omega
  have e : ((t : Int) + L).toNat - t = L := by omega
  simp only [leastR, hf, hs, if_true, Int.toNat_natCast, e]
end Go.Proofs.Ytcgchicdmgllaad
