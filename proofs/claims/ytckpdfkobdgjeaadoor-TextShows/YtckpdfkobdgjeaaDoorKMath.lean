/- Plain facts on runs, as lists of pairs (from when on, how much): no Go text in sight. -/
namespace Go.Proofs.YtckpdfkobdgjeaaDoor
def bdd (n : Int) : Bool := decide (-1048576 ≤ n ∧ n ≤ 1048576)
def wth (n lo hi : Int) : Bool := decide (lo ≤ n ∧ n ≤ hi)
theorem bdd_iff {n : Int} : bdd n = true ↔ -1048576 ≤ n ∧ n ≤ 1048576 := by simp [bdd]
abbrev RunL := List (Int × Int)
def rAt (l : RunL) (i : Nat) : Int := (l.getD i (0, 0)).1
def rN (l : RunL) (i : Nat) : Int := (l.getD i (0, 0)).2
def okAt (l : RunL) (i : Nat) : Prop :=
  (i = 0 → rAt l 0 = 0) ∧ rAt l i < 48 ∧ bdd (rN l i) = true ∧ (0 < i → rAt l (i - 1) < rAt l i ∧ rN l i ≠ rN l (i - 1))
def Fine (l : RunL) : Prop := 0 < l.length ∧ ∀ i, i < l.length → okAt l i
def okB (l : RunL) (i : Nat) : Bool :=
  decide ((i = 0 → rAt l 0 = 0) ∧ rAt l i < 48 ∧ bdd (rN l i) = true ∧ (0 < i → rAt l (i - 1) < rAt l i ∧ rN l i ≠ rN l (i - 1)))
theorem okB_iff {l : RunL} {i : Nat} : okB l i = true ↔ okAt l i := decide_eq_true_iff
def fineTo (l : RunL) : Nat → Bool
  | 0 => true
  | n + 1 => fineTo l n && okB l n
def fine (l : RunL) : Bool := decide (0 < l.length) && fineTo l l.length
theorem fineTo_iff (l : RunL) : ∀ n, fineTo l n = true ↔ ∀ i, i < n → okAt l i
  | 0 => by simp [fineTo]
  | n + 1 => by
    simp only [fineTo, Bool.and_eq_true, okB_iff, fineTo_iff l n]
    constructor
    · rintro ⟨h1, h2⟩ i hi
      by_cases e : i = n
      · subst e; exact h2
      · exact h1 i (by omega)
    · intro h
      exact ⟨fun i hi => h i (by omega), h n (by omega)⟩
theorem fine_iff {l : RunL} : fine l = true ↔ Fine l := by
  simp [fine, Fine, fineTo_iff]
theorem fine_not {l : RunL} : fine l = false ↔ ¬ Fine l := by
  rw [← fine_iff]; simp
theorem Fine.at0 {l : RunL} (h : Fine l) : rAt l 0 = 0 := (h.2 0 h.1).1 rfl
theorem Fine.lt {l : RunL} (h : Fine l) {i : Nat} (hi : i + 1 < l.length) : rAt l i < rAt l (i + 1) := ((h.2 (i + 1) hi).2.2.2 (by omega)).1
theorem Fine.ne {l : RunL} (h : Fine l) {i : Nat} (hi : i + 1 < l.length) : rN l (i + 1) ≠ rN l i := ((h.2 (i + 1) hi).2.2.2 (by omega)).2
theorem Fine.le {l : RunL} (h : Fine l) {j : Nat} : ∀ {i : Nat}, i ≤ j → j < l.length → rAt l i ≤ rAt l j := by
  induction j with
  | zero => intro i hi _; have : i = 0 := by omega
            subst this; exact Int.le_refl _
  | succ j ih =>
    intro i hi hj
    by_cases e : i = j + 1
    · subst e; exact Int.le_refl _
    · have := ih (i := i) (by omega) (by omega); have := h.lt hj; omega
theorem Fine.nonneg {l : RunL} (h : Fine l) {i : Nat} (hi : i < l.length) : 0 ≤ rAt l i := by
  have := h.le (Nat.zero_le i) hi; rw [h.at0] at this; exact this
theorem Fine.below {l : RunL} (h : Fine l) {i : Nat} (hi : i < l.length) : rAt l i < 48 := (h.2 i hi).2.1
theorem Fine.bdd {l : RunL} (h : Fine l) {i : Nat} (hi : i < l.length) : bdd (rN l i) = true := (h.2 i hi).2.2.1
theorem Fine.idx {l : RunL} (h : Fine l) : ∀ {i : Nat}, i < l.length → (i : Int) ≤ rAt l i := by
  intro i
  induction i with
  | zero => intro _; rw [h.at0]; simp
  | succ i ih => intro hi; have := ih (by omega); have := h.lt hi; omega
theorem Fine.short {l : RunL} (h : Fine l) : l.length ≤ 48 := by
  have h0 := h.1
  have h1 := h.idx (i := l.length - 1) (by omega)
  have h2 := h.below (i := l.length - 1) (by omega)
  omega
def Rises (l : RunL) : Prop := 0 < l.length ∧ rAt l 0 = 0 ∧ ∀ i, i + 1 < l.length → rAt l i ≤ rAt l (i + 1)
theorem Fine.rises {l : RunL} (h : Fine l) : Rises l := ⟨h.1, h.at0, fun i hi => by have := h.lt hi; omega⟩
theorem Rises.le {l : RunL} (h : Rises l) {j : Nat} : ∀ {i : Nat}, i ≤ j → j < l.length → rAt l i ≤ rAt l j := by
  induction j with
  | zero => intro i hi _; have : i = 0 := by omega
            subst this; exact Int.le_refl _
  | succ j ih =>
    intro i hi hj
    by_cases e : i = j + 1
    · subst e; exact Int.le_refl _
    · have := ih (i := i) (by omega) (by omega); have := h.2.2 j hj; omega
def Reached (l : RunL) (t : Int) (j : Nat) : Prop := j < l.length ∧ rAt l j ≤ t ∧ (j + 1 < l.length → t < rAt l (j + 1))
def lastTo (l : RunL) (t : Int) : Nat → Nat
  | 0 => 0
  | n + 1 => if rAt l (n + 1) ≤ t then n + 1 else lastTo l t n
def valAt (l : RunL) (t : Int) : Int := rN l (lastTo l t (l.length - 1))
theorem Reached.last {l : RunL} {t : Int} {j : Nat} (hr : Rises l) (h : Reached l t j) : ∀ n, j ≤ n → n < l.length → lastTo l t n = j
  | 0, hn, _ => by simp [lastTo]; omega
  | n + 1, hn, hl => by
    unfold lastTo
    by_cases e : j = n + 1
    · subst e; rw [if_pos h.2.1]
    · have h1 := h.2.2 (by omega)
      have h2 := hr.le (i := j + 1) (j := n + 1) (by omega) hl
      rw [if_neg (by omega)]
      exact Reached.last hr h n (by omega) (by omega)
theorem Reached.val {l : RunL} {t : Int} {j : Nat} (hr : Rises l) (h : Reached l t j) : rN l j = valAt l t := by
  unfold valAt
  rw [h.last hr (l.length - 1) (by have := h.1; omega) (by have := h.1; omega)]
def foldTo (v : Nat → Int) : Nat → RunL
  | 0 => []
  | t + 1 => if t = 0 ∨ v (t - 1) ≠ v t then foldTo v t ++ [((t : Int), v t)] else foldTo v t
def allTo (v : Nat → Int) : Nat → Bool
  | 0 => true
  | t + 1 => allTo v t && bdd (v t)
theorem allTo_iff (v : Nat → Int) : ∀ n, allTo v n = true ↔ ∀ i, i < n → bdd (v i) = true
  | 0 => by simp [allTo]
  | n + 1 => by
    simp only [allTo, Bool.and_eq_true, allTo_iff v n]
    constructor
    · rintro ⟨h1, h2⟩ i hi
      by_cases e : i = n
      · subst e; exact h2
      · exact h1 i (by omega)
    · intro h
      exact ⟨fun i hi => h i (by omega), h n (by omega)⟩
theorem allTo_mono {v : Nat → Int} {a b : Nat} (h : allTo v b = true) (hab : a ≤ b) : allTo v a = true := by
  rw [allTo_iff] at *; exact fun i hi => h i (by omega)
theorem rAt_app (l : RunL) (x : Int × Int) (i : Nat) (h : i < l.length) : rAt (l ++ [x]) i = rAt l i := by
  simp [rAt, List.getD, List.getElem?_append_left h]
theorem rN_app (l : RunL) (x : Int × Int) (i : Nat) (h : i < l.length) : rN (l ++ [x]) i = rN l i := by
  simp [rN, List.getD, List.getElem?_append_left h]
theorem rAt_end (l : RunL) (x : Int × Int) : rAt (l ++ [x]) l.length = x.1 := by simp [rAt, List.getD]
theorem rN_end (l : RunL) (x : Int × Int) : rN (l ++ [x]) l.length = x.2 := by simp [rN, List.getD]
theorem foldTo_ok (v : Nat → Int) : ∀ n, 0 < n → 0 < (foldTo v n).length ∧ rN (foldTo v n) ((foldTo v n).length - 1) = v (n - 1) ∧ rAt (foldTo v n) ((foldTo v n).length - 1) < n ∧ (foldTo v n).length ≤ n
  | 0, h => by omega
  | 1, _ => by simp [foldTo, rN, rAt]
  | n + 2, _ => by
    obtain ⟨h1, h2, h3, h4⟩ := foldTo_ok v (n + 1) (by omega)
    unfold foldTo
    by_cases e : (n + 1 = 0 ∨ v (n + 1 - 1) ≠ v (n + 1))
    · rw [if_pos e]
      have hl : (foldTo v (n + 1) ++ [((((n + 1 : Nat)) : Int), v (n + 1))]).length - 1 = (foldTo v (n + 1)).length := by simp
      rw [hl, rN_end, rAt_end]
      refine ⟨by simp, by simp, by simp only []; omega, by simp; omega⟩
    · rw [if_neg e]
      have e2 : v n = v (n + 1) := by
        by_cases e3 : v n = v (n + 1)
        · exact e3
        · exact absurd (Or.inr (by simpa using e3)) e
      refine ⟨h1, ?_, by omega, by omega⟩
      rw [h2]; simpa using e2
theorem foldTo_fine (v : Nat → Int) (n : Nat) (hn : 0 < n) (h48 : n ≤ 48) (hb : allTo v n = true) : Fine (foldTo v n) := by
  refine ⟨(foldTo_ok v n hn).1, ?_⟩
  induction n with
  | zero => omega
  | succ n ih =>
    intro i hi
    by_cases h0 : n = 0
    · subst h0
      have hb0 : bdd (v 0) = true := (allTo_iff v 1).1 hb 0 (by omega)
      simp [foldTo] at hi ⊢
      subst hi
      simp [okAt, rAt, rN, hb0]
    · have ih' := ih (by omega) (by omega) (allTo_mono hb (by omega))
      obtain ⟨h1, h2, h3, h4⟩ := foldTo_ok v n (by omega)
      have hbn : bdd (v n) = true := (allTo_iff v (n + 1)).1 hb n (by omega)
      unfold foldTo at hi ⊢
      by_cases e : (n = 0 ∨ v (n - 1) ≠ v n)
      · rw [if_pos e] at hi ⊢
        by_cases hl : i < (foldTo v n).length
        · obtain ⟨g1, g2, g3, g4⟩ := ih' i hl
          unfold okAt
          rw [rAt_app _ _ _ hl, rN_app _ _ _ hl, rAt_app _ _ _ h1]
          refine ⟨g1, g2, g3, fun hp => ?_⟩
          rw [rAt_app _ _ _ (by omega), rN_app _ _ _ (by omega)]
          exact g4 hp
        · have : i = (foldTo v n).length := by simp at hi; omega
          subst this
          unfold okAt
          rw [rAt_end, rN_end]
          refine ⟨by omega, by simp only []; omega, hbn, fun hp => ?_⟩
          rw [rAt_app _ _ _ (by omega), rN_app _ _ _ (by omega), h2]
          refine ⟨by simp only []; omega, ?_⟩
          rcases e with e | e
          · omega
          · exact fun q => e q.symm
      · rw [if_neg e] at hi ⊢
        exact ih' i hi
theorem foldTo_reached (v : Nat → Int) (n : Nat) (hn : 0 < n) : ∀ t, t < n → ∃ j, Reached (foldTo v n) (t : Int) j ∧ rN (foldTo v n) j = v t := by
  induction n with
  | zero => omega
  | succ n ih =>
    intro t ht
    by_cases h0 : n = 0
    · subst h0
      have : t = 0 := by omega
      subst this
      exact ⟨0, by simp [Reached, foldTo, rAt], by simp [foldTo, rN]⟩
    · obtain ⟨h1, h2, h3, h4⟩ := foldTo_ok v n (by omega)
      unfold foldTo
      by_cases e : (n = 0 ∨ v (n - 1) ≠ v n)
      · rw [if_pos e]
        by_cases et : t = n
        · subst et
          refine ⟨(foldTo v t).length, ⟨by simp, by rw [rAt_end]; exact Int.le_refl _, fun h => by simp at h⟩, by rw [rN_end]⟩
        · obtain ⟨j, hj, hv⟩ := ih (by omega) t (by omega)
          refine ⟨j, ⟨by simp; have := hj.1; omega, by rw [rAt_app _ _ _ hj.1]; exact hj.2.1, fun h => ?_⟩, by rw [rN_app _ _ _ hj.1]; exact hv⟩
          by_cases hl : j + 1 < (foldTo v n).length
          · rw [rAt_app _ _ _ hl]; exact hj.2.2 hl
          · have : j + 1 = (foldTo v n).length := by have := hj.1; omega
            rw [this, rAt_end]; simp only []; omega
      · rw [if_neg e]
        have e2 : v (n - 1) = v n := by
          by_cases e3 : v (n - 1) = v n
          · exact e3
          · exact absurd (Or.inr e3) e
        by_cases et : t = n
        · subst et
          exact ⟨(foldTo v t).length - 1, ⟨by omega, by omega, fun h => by omega⟩, by rw [h2, e2]⟩
        · exact ih (by omega) t (by omega)
theorem foldTo_val (v : Nat → Int) (hb : allTo v 48 = true) (t : Nat) (ht : t < 48) : valAt (foldTo v 48) t = v t := by
  obtain ⟨j, hj, hv⟩ := foldTo_reached v 48 (by omega) t ht
  rw [← hv, ← hj.val (foldTo_fine v 48 (by omega) (by omega) hb).rises]
theorem foldTo_congr {v u : Nat → Int} : ∀ n, (∀ t, t < n → v t = u t) → foldTo v n = foldTo u n
  | 0, _ => rfl
  | n + 1, h => by
    unfold foldTo
    rw [foldTo_congr n (fun t ht => h t (by omega)), h n (by omega)]
    by_cases e : n = 0
    · simp [e]
    · rw [h (n - 1) (by omega)]
end Go.Proofs.YtckpdfkobdgjeaaDoor
