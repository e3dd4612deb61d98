/- More plain facts on runs: what is said of all times is said in one way; what was added and taken away is what it was. -/
import Derived.Test.YtcgchicdmgllaadRunsD
namespace Go.Proofs.Ytcgchicdmgllaad

theorem take_next (l : RunL) (c : Nat) (h : c < l.length) : l.take (c + 1) = l.take c ++ [(rAt l c, rN l c)] := by
  have e : (rAt l c, rN l c) = l[c] := by simp [rAt, rN, List.getD, h]
  rw [List.take_succ_eq_append_getElem h, e]

theorem fold_take {l : RunL} (hF : Fine l) : ∀ n, ∃ c, c ≤ l.length ∧ foldTo (vals l) n = l.take c ∧ (∀ i, i < c → rAt l i < n) ∧ (c < l.length → (n : Int) ≤ rAt l c)
  | 0 => ⟨0, Nat.zero_le _, by simp [foldTo], fun i hi => by omega, fun _ => by rw [hF.at0]; exact Int.le_refl _⟩
  | n + 1 => by
    obtain ⟨c, h1, h2, h3, h4⟩ := fold_take hF n
    have hp := hF.1
    by_cases hA : c < l.length ∧ rAt l c = n
    · obtain ⟨g1, g2⟩ := hA
      have R1 : Reached l (n : Int) c := ⟨g1, by omega, fun h => by have := hF.lt h; omega⟩
      have v1 : vals l n = rN l c := (R1.val hF.rises).symm
      have hc : n = 0 ∨ vals l (n - 1) ≠ vals l n := by
        by_cases e : n = 0
        · exact Or.inl e
        · refine Or.inr ?_
          have c1 : 1 ≤ c := by
            by_cases e1 : c = 0
            · subst e1; rw [hF.at0] at g2; omega
            · omega
          have R2 : Reached l ((n - 1 : Nat) : Int) (c - 1) := ⟨by omega, by have := h3 (c - 1) (by omega); omega, fun _ => by rw [show c - 1 + 1 = c from by omega]; omega⟩
          have v2 : vals l (n - 1) = rN l (c - 1) := (R2.val hF.rises).symm
          rw [v1, v2]
          have := hF.ne (i := c - 1) (by omega)
          rw [show c - 1 + 1 = c from by omega] at this
          exact fun q => this q.symm
      refine ⟨c + 1, g1, ?_, fun i hi => ?_, fun h => ?_⟩
      · rw [foldTo, if_pos hc, h2, take_next l c g1, v1, g2]
      · by_cases e : i = c
        · subst e; omega
        · have := h3 i (by omega); omega
      · have := hF.lt h; omega
    · have g : c < l.length → (n : Int) < rAt l c := fun h => by
        have := h4 h
        by_cases e : rAt l c = n
        · exact absurd ⟨h, e⟩ hA
        · omega
      have c1 : 1 ≤ c := by
        by_cases e1 : c = 0
        · subst e1
          have := g hp
          rw [hF.at0] at this
          omega
        · omega
      have n1 : 1 ≤ n := by
        have := h3 0 (by omega)
        rw [hF.at0] at this
        omega
      have R1 : Reached l (n : Int) (c - 1) := ⟨by omega, by have := h3 (c - 1) (by omega); omega, fun h => by rw [show c - 1 + 1 = c from by omega] at h ⊢; exact g h⟩
      have R2 : Reached l ((n - 1 : Nat) : Int) (c - 1) := ⟨by omega, by have := h3 (c - 1) (by omega); omega, fun h => by rw [show c - 1 + 1 = c from by omega] at h ⊢; have := g h; omega⟩
      have v1 : vals l n = rN l (c - 1) := (R1.val hF.rises).symm
      have v2 : vals l (n - 1) = rN l (c - 1) := (R2.val hF.rises).symm
      refine ⟨c, h1, ?_, fun i hi => by have := h3 i hi; omega, fun h => by have := g h; omega⟩
      rw [foldTo, if_neg ?_, h2]
      rintro (e | e)
      · omega
      · exact e (by rw [v1, v2])

/-- of what is said at all times there is one way to say it -/
theorem fold_self {l : RunL} (hF : Fine l) : foldTo (vals l) 48 = l := by
  obtain ⟨c, h1, h2, h3, h4⟩ := fold_take hF 48
  have : c = l.length := by
    by_cases e : c < l.length
    · have := h4 e; have := hF.below e; omega
    · omega
  rw [h2, this, List.take_length]

theorem joinR_ok {jn : Int → Int → Int} {l1 l2 r : RunL} (h : joinR jn l1 l2 = (r, 0)) : Fine l1 ∧ Fine l2 ∧ allTo (jv jn l1 l2) 48 = true ∧ r = foldTo (jv jn l1 l2) 48 := by
  unfold joinR at h
  cases hf : (fine l1 && fine l2) with
  | false => rw [hf] at h; simp at h
  | true =>
    rw [hf] at h
    rw [Bool.and_eq_true] at hf
    simp only [if_true, tell] at h
    cases ha : allTo (jv jn l1 l2) 48 with
    | false => rw [ha] at h; simp at h
    | true =>
      rw [ha] at h
      simp at h
      exact ⟨fine_iff.1 hf.1, fine_iff.1 hf.2, rfl, h.symm⟩
theorem joinR_fine {jn : Int → Int → Int} {l1 l2 r : RunL} (h : joinR jn l1 l2 = (r, 0)) : Fine r := by
  obtain ⟨_, _, ha, rfl⟩ := joinR_ok h
  exact foldTo_fine _ 48 (by omega) (by omega) ha
theorem joinR_val {jn : Int → Int → Int} {l1 l2 r : RunL} (h : joinR jn l1 l2 = (r, 0)) (t : Nat) (ht : t < 48) : vals r t = jn (vals l1 t) (vals l2 t) := by
  obtain ⟨_, _, ha, rfl⟩ := joinR_ok h
  exact foldTo_val _ ha t ht
theorem back {f g x y : RunL} (h1 : joinR (fun x y => x + y) f g = (x, 0)) (h2 : joinR (fun x y => x - y) x g = (y, 0)) : y = f := by
  obtain ⟨hf, _, _, _⟩ := joinR_ok h1
  obtain ⟨_, _, _, rfl⟩ := joinR_ok h2
  rw [← fold_self hf]
  apply foldTo_congr
  intro t ht
  show vals x t - vals g t = vals f t
  rw [joinR_val h1 t ht]
  omega
theorem min_both {f g z u : RunL} (h1 : joinR (fun x y => min x y) f g = (z, 0)) (h2 : joinR (fun x y => min x y) g f = (u, 0)) : u = z := by
  obtain ⟨_, _, _, rfl⟩ := joinR_ok h1
  obtain ⟨_, _, _, rfl⟩ := joinR_ok h2
  apply foldTo_congr
  intro t _
  show min (vals g t) (vals f t) = min (vals f t) (vals g t)
  omega
theorem valueR_fine {l : RunL} (h : Fine l) (t : Nat) (ht : t < 48) : valueR l t = (vals l t, 0) := by
  have h1 : fine l = true := fine_iff.2 h
  have h2 : wth (t : Int) 0 47 = true := by simp [wth]; omega
  simp [valueR, h1, h2, vals]
theorem chk_zero {l : RunL} (h : Fine l) : chk l = 0 := by simp [chk, fine_iff.2 h]
theorem leastR_ok {l : RunL} {a b low : Int} (h : leastR l a b = (low, 0)) : ∃ A B : Nat, a = A ∧ b = B ∧ A < B ∧ B ≤ 48 ∧ IsLow (vals l) A B low := by
  unfold leastR at h
  cases hf : fine l with
  | false => rw [hf] at h; simp at h
  | true =>
    rw [hf] at h
    simp only [if_true] at h
    cases hs : spn a b with
    | false => rw [hs] at h; simp at h
    | true =>
      rw [hs] at h
      simp at h
      have hsp := of_decide_eq_true hs
      refine ⟨a.toNat, b.toNat, by omega, by omega, by omega, by omega, ?_⟩
      have := lowTo_low (vals l) a.toNat (b.toNat - a.toNat) (by omega)
      rw [show a.toNat + (b.toNat - a.toNat) = b.toNat from by omega, h] at this
      exact this
end Go.Proofs.Ytcgchicdmgllaad
