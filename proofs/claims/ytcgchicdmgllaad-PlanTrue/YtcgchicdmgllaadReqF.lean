/- Contract of the reference's MeetsOf: it is what req.Meets answers. -/
import Derived.Test.YtcgchicdmgllaadReqE
namespace Go.Proofs.Ytcgchicdmgllaad
open Go.RowKit

def firstOk (r : Rq) (b : RunL) (k : Nat) : Bool := (isPiece r b k && (decide (k = 0) || decide (rAt b (k - 1) < rAt b k))) && inTime r b k
def secondOk (r : Rq) (b : RunL) (k : Nat) : Bool := decide (k = 0) || (if r.kind = 3 then decide (rN b (k - 1) + rAt r.ps (k - 1) ≤ rN b k) else if r.kind = 4 then decide (rN b k = rN b (k - 1) + rAt r.ps (k - 1)) else true)
def meetsOf (r : Rq) (b : RunL) : Bool := decide (chkR false r = 0) && (allN (firstOk r b) b.length && (if r.kind = 2 then decide (b.length = 1) else (decide (b.length = r.ps.length) && allN (secondOk r b) b.length)))
theorem firstOk_at {r : Rq} {b : RunL} {k : Nat} (h : firstOk r b k = true) : isPiece r b k = true ∧ (k = 0 ∨ rAt b (k - 1) < rAt b k) ∧ inTime r b k = true := by
  simp [firstOk] at h
  exact ⟨h.1.1, h.1.2, h.2⟩
/-- pieces that rise, as many as there are, are told in their order -/
theorem piece_is {r : Rq} {b : RunL} (hn : b.length = r.ps.length) (h3 : r.ps.length ≤ 3) (h : allN (firstOk r b) b.length = true) (k : Nat) (hk : k < b.length) : rAt b k = k := by
  have g := fun i hi => firstOk_at (allN_iff.1 h i hi)
  have p := fun i hi => isPiece_at (g i hi).1
  have q := fun i hi => (g i hi).2.1
  by_cases h1 : b.length = 1
  · have := p 0 (by omega); obtain rfl : k = 0 := by omega
    omega
  by_cases h2 : b.length = 2
  · have a0 := p 0 (by omega); have a1 := p 1 (by omega); have q1 := q 1 (by omega)
    simp at q1
    by_cases e : k = 0
    · subst e; omega
    · obtain rfl : k = 1 := by omega
      omega
  · have h3 : b.length = 3 := by omega
    have a0 := p 0 (by omega); have a1 := p 1 (by omega); have a2 := p 2 (by omega); have q1 := q 1 (by omega); have q2 := q 2 (by omega)
    simp at q1 q2
    by_cases e : k = 0
    · subst e; omega
    by_cases e1 : k = 1
    · subst e1; omega
    · obtain rfl : k = 2 := by omega
      omega
theorem meetsOf_eq (r : Rq) (b : RunL) : meetsOf r b = meets r b := by
  by_cases hc : chkR false r = 0
  case neg => rw [meetsOf, meets, decide_eq_false hc]; rfl
  have h3 := of_decide_eq_true (chkR_zero.1 hc).2.1
  rw [meetsOf, meets, hc]
  by_cases hk : r.kind = 2
  · rw [if_pos hk, wantedN, if_pos hk]
    by_cases h1 : b.length = 1
    · rw [h1]
      simp [allN, firstOk, biteOk]
    · have e1 : decide (b.length = 1) = false := decide_eq_false h1
      have e2 : decide ((b.length : Int) = 1) = false := decide_eq_false (by omega)
      rw [e1, e2]; simp
  · rw [if_neg hk, wantedN, if_neg hk]
    by_cases hn : b.length = r.ps.length
    · have e1 : decide (b.length = r.ps.length) = true := decide_eq_true hn
      have e2 : decide ((b.length : Int) = r.ps.length) = true := decide_eq_true (by omega)
      rw [e1, e2]
      rw [Bool.eq_iff_iff]
      simp only [decide_true, Bool.true_and, Bool.and_eq_true, allN_iff]
      constructor
      · rintro ⟨h1, h2⟩ k hk
        have f := firstOk_at (h1 k hk)
        have s := h2 k hk
        rw [biteOk, f.1, f.2.2]
        by_cases k0 : k = 0
        · simp [k0]
        · have f2 : rAt b (k - 1) < rAt b k := by rcases f.2.1 with e | e; exact absurd e k0; exact e
          have hp := piece_is hn (by omega) (allN_iff.2 h1) (k - 1) (by omega)
          have hl : lenOf r b (k - 1) = rAt r.ps (k - 1) := by rw [lenOf, hp, Int.toNat_natCast]
          rw [secondOk, decide_eq_false k0] at s
          rw [followsB, overAt, hl, decide_eq_true f2]
          simp at s ⊢
          exact Or.inr s
      · intro h
        have hf : ∀ k, k < b.length → firstOk r b k = true := fun k hk => by
          have f := biteOk_at (h k hk)
          rw [firstOk, f.1, f.2.1]
          rcases f.2.2 with e | e
          · simp [e]
          · rw [followsB, Bool.and_eq_true] at e
            simp [of_decide_eq_true e.1]
        refine ⟨hf, fun k hk => ?_⟩
        by_cases k0 : k = 0
        · simp [secondOk, k0]
        · have f := biteOk_at (h k hk)
          have f2 : followsB r b (k - 1) k = true := by rcases f.2.2 with e | e; exact absurd e k0; exact e
          have hp := piece_is hn (by omega) (allN_iff.2 hf) (k - 1) (by omega)
          have hl : lenOf r b (k - 1) = rAt r.ps (k - 1) := by rw [lenOf, hp, Int.toNat_natCast]
          rw [followsB, overAt, hl, Bool.and_eq_true] at f2
          rw [secondOk, decide_eq_false k0]
          simpa using f2.2
    · have e1 : decide (b.length = r.ps.length) = false := decide_eq_false hn
      have e2 : decide ((b.length : Int) = r.ps.length) = false := decide_eq_false (by omega)
      rw [e1, e2]; simp

theorem meetsOf_bad {r : Rq} {b : RunL} {n j : Nat} (hn : Hid (n = b.length)) (hj : j < n) (h : firstOk r b j = false) : meetsOf r b = false := by
  rw [meetsOf, ← hn.out, allN_false h n hj]; simp
end Go.Proofs.Ytcgchicdmgllaad
