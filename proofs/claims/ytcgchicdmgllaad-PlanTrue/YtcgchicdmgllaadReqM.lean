/- Plain facts on requests: what meets one that is tight meets one in order, and that one of all; what meets is over between From and Until. -/
import Derived.Test.YtcgchicdmgllaadReqE
namespace Go.Proofs.Ytcgchicdmgllaad

/-- the same request, of another kind -/
def Rq.as (r : Rq) (k : Int) : Rq := ⟨r.queue, r.fr, r.un, k, r.pa, r.pn, r.pc, r.ps⟩
theorem as_chk {r : Rq} {k m : Int} (hm : 1 ≤ m ∧ m ≤ 4) (h : chkR false (r.as k) = 0) : chkR false (r.as m) = 0 := by
  obtain ⟨h1, h2, h3⟩ := chkR_zero.1 h
  exact chkR_zero.2 ⟨decide_eq_true hm, h2, h3⟩
theorem meets_split {r : Rq} {b : RunL} : meets r b = true ↔ chkR false r = 0 ∧ (b.length : Int) = wantedN r ∧ ∀ i, i < b.length → biteOk r b i = true := by
  rw [meets, Bool.and_eq_true, Bool.and_eq_true, decide_eq_true_iff, decide_eq_true_iff, allN_iff]
theorem as_bite {r : Rq} {b : RunL} {k m : Int} {i : Nat} (hf : ∀ j, followsB (r.as k) b j i = true → followsB (r.as m) b j i = true) (h : biteOk (r.as k) b i = true) : biteOk (r.as m) b i = true := by
  obtain ⟨h1, h2, h3⟩ := biteOk_at h
  have h1' : isPiece (r.as m) b i = true := h1
  have h2' : inTime (r.as m) b i = true := h2
  simp only [biteOk, h1', h2', Bool.and_self, Bool.true_and, Bool.or_eq_true, decide_eq_true_eq]
  exact h3.imp id (hf _)
theorem tight_order {r : Rq} {b : RunL} (h : meets (r.as 4) b = true) : meets (r.as 3) b = true := by
  obtain ⟨h1, h2, h3⟩ := meets_split.1 h
  refine meets_split.2 ⟨as_chk (by omega) h1, h2, fun i hi => as_bite (fun j hj => ?_) (h3 i hi)⟩
  rw [followsB, Bool.and_eq_true] at hj ⊢
  refine ⟨hj.1, ?_⟩
  have := hj.2
  rw [if_neg (show ¬ (r.as 4).kind = 3 by show ¬ (4 : Int) = 3; decide), if_pos (show (r.as 4).kind = 4 from rfl), decide_eq_true_eq] at this
  rw [if_pos (show (r.as 3).kind = 3 from rfl), decide_eq_true_eq, this]
  exact Int.le_refl _
theorem order_all {r : Rq} {b : RunL} (h : meets (r.as 3) b = true) : meets (r.as 1) b = true := by
  obtain ⟨h1, h2, h3⟩ := meets_split.1 h
  refine meets_split.2 ⟨as_chk (by omega) h1, h2, fun i hi => as_bite (fun j hj => ?_) (h3 i hi)⟩
  rw [followsB, Bool.and_eq_true] at hj ⊢
  refine ⟨hj.1, ?_⟩
  rw [if_neg (show ¬ (r.as 1).kind = 3 by show ¬ (1 : Int) = 3; decide), if_neg (show ¬ (r.as 1).kind = 4 by show ¬ (1 : Int) = 4; decide)]
theorem meets_over {r : Rq} {b : RunL} (h : meets r b = true) : overOk r b = true := by
  obtain ⟨h1, h2, h3⟩ := meets_split.1 h
  have hw := wantedN_pos h1
  have hs := spn_at h1
  rw [overOk, decide_eq_true h1, decide_eq_true (show 0 < b.length by omega), Bool.true_and, Bool.true_and, askAll, allN_iff]
  intro i hi
  obtain ⟨g1, g2, _⟩ := biteOk_at (h3 i hi)
  have g3 := inTime_at g2
  have g4 := lenOf_at h1 g1
  have g5 := isPiece_at g1
  simp only [askV, Bool.and_eq_true, wth, decide_eq_true_eq]
  omega
theorem overMax_le {r : Rq} {b : RunL} (h : meets r b = true) : ∀ k, k ≤ b.length → overMax r b k ≤ r.un
  | 0, _ => by have := spn_at (meets_split.1 h).1; simp only [overMax]; omega
  | k + 1, hk => by
    obtain ⟨h1, h2, h3⟩ := meets_split.1 h
    have ih := overMax_le h k (by omega)
    obtain ⟨g1, g2, _⟩ := biteOk_at (h3 k (by omega))
    have g3 := inTime_at g2
    simp only [overMax, overAt]
    omega
theorem overMax_ge {r : Rq} {b : RunL} : ∀ {n k : Nat}, k < n → overAt r b k ≤ overMax r b n
  | 0, k, h => by omega
  | n + 1, k, h => by
    rw [overMax]
    by_cases e : k = n
    · subst e; omega
    · have := overMax_ge (r := r) (b := b) (n := n) (k := k) (by omega); omega
/-- all of it is over by Until, behind From and behind the first bite's beginning -/
theorem meets_bounds {r : Rq} {b : RunL} (h : meets r b = true) : overMax r b b.length ≤ r.un ∧ r.fr < overMax r b b.length ∧ rN b 0 < overMax r b b.length ∧ 0 < b.length := by
  obtain ⟨h1, h2, h3⟩ := meets_split.1 h
  have hw := wantedN_pos h1
  have hp : 0 < b.length := by omega
  have h4 := overMax_le h b.length (Nat.le_refl _)
  have h5 := overMax_ge (r := r) (b := b) hp
  obtain ⟨g1, g2, _⟩ := biteOk_at (h3 0 hp)
  have g3 := inTime_at g2
  have g4 := lenOf_at h1 g1
  simp only [overAt] at h5
  exact ⟨h4, by omega, by omega, hp⟩
end Go.Proofs.Ytcgchicdmgllaad
