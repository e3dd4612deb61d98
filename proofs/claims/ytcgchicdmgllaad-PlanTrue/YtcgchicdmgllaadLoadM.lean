/- Plain facts on what is taken: at each time it is what the bites take together. -/
import Derived.Test.YtcgchicdmgllaadLoadD
import Derived.Test.YtcgchicdmgllaadRunsM
namespace Go.Proofs.Ytcgchicdmgllaad

/-- what bite k takes at t; what the first k bites of a book take; what the first j books take of queue q -/
def biteV (x : Bk) (k t : Nat) : Int := if rN x.bs k ≤ t ∧ (t : Int) < rN x.bs k + lenOf x.rq x.bs k then nAt x.rq x.bs k else 0
def bookTo (x : Bk) (t : Nat) : Nat → Int
  | 0 => 0
  | k + 1 => bookTo x t k + biteV x k t
def useTo (l : QL) (b : BL) (q t : Nat) : Nat → Int
  | 0 => 0
  | j + 1 => useTo l b q t j + if (q : Int) ∈ lineOf l (bk b j).rq.queue then bookTo (bk b j) t (bk b j).bs.length else 0

theorem bump_up {g : RunL} (hg : Fine g) {a b n : Int} (h0 : 0 ≤ a) (h1 : a < b) (h2 : b ≤ 48) (hn : 1 ≤ n ∧ n ≤ 50) (hr : ∀ u : Nat, u < 48 → 0 ≤ vals g u ∧ vals g u ≤ 1000000) :
    Fine (bumpR g a b n).1 ∧ ∀ u : Nat, u < 48 → vals (bumpR g a b n).1 u = vals g u + if a ≤ u ∧ (u : Int) < b then n else 0 := by
  have hs : (spn a b && bdd n) = true := by
    rw [Bool.and_eq_true]
    constructor
    · simp [spn]; omega
    · rw [bdd_iff]; omega
  have ha : allTo (bumpV g a b n) 48 = true := by
    rw [allTo_iff]
    intro i hi
    have := hr i hi
    rw [bdd_iff]
    unfold bumpV
    split <;> omega
  have he : bumpR g a b n = (foldTo (bumpV g a b n) 48, 0) := by
    rw [bumpR, if_pos (fine_iff.2 hg), if_pos hs, tell, if_pos ha]
  rw [he]
  refine ⟨foldTo_fine _ 48 (by omega) (by omega) ha, fun u hu => ?_⟩
  show vals (foldTo (bumpV g a b n) 48) u = _
  rw [show vals (foldTo (bumpV g a b n) 48) u = bumpV g a b n u from foldTo_val _ ha u hu]
  unfold bumpV
  split <;> omega
theorem meets_few {r : Rq} {b : RunL} (h : meets r b = true) : b.length ≤ 3 := by
  obtain ⟨h1, h2, h3⟩ := meets_split.1 h
  have := of_decide_eq_true (chkR_zero.1 h1).2.1
  rw [wantedN] at h2
  split at h2 <;> omega
theorem biteV_bd {x : Bk} (h : meets x.rq x.bs = true) {k : Nat} (hk : k < x.bs.length) (t : Nat) : 0 ≤ biteV x k t ∧ biteV x k t ≤ 50 := by
  have := bite_all h hk
  unfold biteV
  split <;> omega
theorem bookTo_bd {x : Bk} (h : meets x.rq x.bs = true) (t : Nat) : ∀ k, k ≤ x.bs.length → 0 ≤ bookTo x t k ∧ bookTo x t k ≤ 50 * k
  | 0, _ => by simp [bookTo]
  | k + 1, hk => by
    have h1 := bookTo_bd h t k (by omega)
    have h2 := biteV_bd h (k := k) (by omega) t
    rw [bookTo]
    omega
theorem with_val {f : RunL} (hf : Fine f) {x : Bk} (h : meets x.rq x.bs = true) (hr : ∀ u : Nat, u < 48 → 0 ≤ vals f u ∧ vals f u ≤ 500000) : ∀ k, k ≤ x.bs.length → Fine (withTo f x k) ∧ ∀ u : Nat, u < 48 → vals (withTo f x k) u = vals f u + bookTo x u k
  | 0, _ => ⟨hf, fun u _ => by rw [withTo, bookTo]; omega⟩
  | k + 1, hk => by
    obtain ⟨h1, h2⟩ := with_val hf h hr k (by omega)
    have hb := bite_all h (k := k) (by omega)
    have h3 := meets_few h
    obtain ⟨g1, g2⟩ := bump_up h1 (a := rN x.bs k) (b := rN x.bs k + lenOf x.rq x.bs k) (n := nAt x.rq x.bs k) (by omega) (by omega) (by omega) (by omega) (fun u hu => by
      rw [h2 u hu]
      have := hr u hu
      have := bookTo_bd h u k (by omega)
      omega)
    refine ⟨g1, fun u hu => ?_⟩
    show vals (bumpR (withTo f x k) (rN x.bs k) (rN x.bs k + lenOf x.rq x.bs k) (nAt x.rq x.bs k)).1 u = _
    rw [g2 u hu, h2 u hu, bookTo, biteV]
    omega

/-- a line goes down: each queue is less than the one ahead -/
theorem line_down {l : QL} (hR : Right l) : ∀ (m : Nat) (q : Int), q < l.length → q < m → (lineOf l q).Nodup ∧ ∀ x ∈ lineOf l q, 0 ≤ x ∧ x ≤ q
  | 0, q, h1, h2 => by rw [line_nil (by omega)]; exact ⟨List.nodup_nil, fun x hx => by cases hx⟩
  | m + 1, q, h1, h2 => by
    by_cases e : q < 0
    · rw [line_nil e]; exact ⟨List.nodup_nil, fun x hx => by cases hx⟩
    · have hp := hR.par q.toNat (by omega)
      obtain ⟨g1, g2⟩ := line_down hR m (qu l q.toNat).parent (by omega) (by omega)
      rw [line_step hR (by omega) h1]
      refine ⟨List.nodup_cons.2 ⟨fun hm => ?_, g1⟩, fun x hx => ?_⟩
      · have := g2 q hm
        omega
      · rcases List.mem_cons.1 hx with rfl | hx
        · omega
        · have := g2 x hx
          omega
theorem addAll_at (x : Bk) : ∀ (ps : List Int) (T : Nat → RunL), ps.Nodup → (∀ y ∈ ps, 0 ≤ y) → ∀ q : Nat, addAll x T ps q = if (q : Int) ∈ ps then withTo (T q) x x.bs.length else T q
  | [], T, _, _, q => by simp [addAll]
  | p :: ps, T, hn, hp, q => by
    rw [List.nodup_cons] at hn
    have h0 := hp p (by simp)
    rw [addAll, addAll_at x ps _ hn.2 (fun y hy => hp y (by simp [hy])) q]
    by_cases e : q = p.toNat
    · have e2 : (q : Int) = p := by omega
      rw [if_neg (by rw [e2]; exact hn.1), if_pos e, if_pos (by rw [e2]; simp), e]
    · have e2 : (q : Int) ≠ p := by omega
      rw [if_neg e]
      by_cases e3 : (q : Int) ∈ ps
      · rw [if_pos e3, if_pos (by simp [e3])]
      · rw [if_neg e3, if_neg (by simp [e3, e2])]

/-- no book has an error -/
structure Clean (l : QL) (b : BL) : Prop where
  tree : chkT l = 0
  few : b.length ≤ 12
  each : ∀ i, i < b.length → chkB l (bk b i) = 0
theorem clean_of {l : QL} {b : BL} (h : chkL l b = 0) : Clean l b := by
  obtain ⟨h1, h2, h3⟩ := no_error h
  exact ⟨h1, h2, h3⟩
theorem chkL_clean {l : QL} {b : BL} (h : Clean l b) : chkL l b = 0 := by
  have hno : ∀ e : Int, e ≠ 0 → noB l b e = true := fun e he => by
    unfold noB
    rw [allN_iff]
    intro i hi
    rw [h.each i hi]
    simpa using fun h => he h.symm
  unfold chkL
  rw [if_pos h.tree, if_pos h.few]
  show (if noB l b 7 = true then (if noB l b 2 = true then (if noB l b 6 = true then (if noB l b 3 = true then (if noB l b 1 = true then (0 : Int) else 1) else 3) else 6) else 2) else 7) = 0
  rw [if_pos (hno 7 (by decide)), if_pos (hno 2 (by decide)), if_pos (hno 6 (by decide)), if_pos (hno 3 (by decide)), if_pos (hno 1 (by decide))]
theorem taken_val {l : QL} {b : BL} (h : Clean l b) : ∀ (j : Nat), j ≤ b.length → ∀ q : Nat, Fine (takenTo l b j q) ∧ ∀ t : Nat, t < 48 → vals (takenTo l b j q) t = useTo l b q t j ∧ 0 ≤ useTo l b q t j ∧ useTo l b q t j ≤ 150 * j
  | 0, _, q => ⟨by show Fine [(0, 0)]; exact fine_iff.1 (by decide), fun t _ => ⟨rfl, by simp [useTo], by simp [useTo]⟩⟩
  | j + 1, hj, q => by
    obtain ⟨h1, h2⟩ := taken_val h j (by omega) q
    obtain ⟨hm, hq0, hq1⟩ := no_error_at h.tree (h.each j (by omega))
    have hR := right_of h.tree
    obtain ⟨g1, g2⟩ := line_down hR (((bk b j).rq.queue).toNat + 1) (bk b j).rq.queue (by omega) (by omega)
    have hfew := h.few
    have hw := with_val h1 hm (fun u hu => by have := h2 u hu; omega) (bk b j).bs.length (Nat.le_refl _)
    rw [takenTo, addAll_at _ _ _ g1 (fun y hy => (g2 y hy).1)]
    have h3 := meets_few hm
    by_cases e : (q : Int) ∈ lineOf l (bk b j).rq.queue
    · rw [if_pos e]
      refine ⟨hw.1, fun t ht => ?_⟩
      have hb := bookTo_bd hm t _ (Nat.le_refl _)
      have := h2 t ht
      rw [hw.2 t ht, useTo, if_pos e]
      omega
    · rw [if_neg e]
      refine ⟨h1, fun t ht => ?_⟩
      have := h2 t ht
      rw [useTo, if_neg e]
      omega
/-- D3: what is taken by some and by the others, together -/
theorem taken_sum {l : QL} {b : BL} (h : Clean l b) (k : Nat) (hk : k ≤ b.length) (q : Nat) :
    joinR (fun x y => x + y) (takenTo l (b.take k) (b.take k).length q) (takenTo l (b.drop k) (b.drop k).length q) = (takenTo l b b.length q, 0) ∧ Clean l (b.take k) ∧ Clean l (b.drop k) := by
  have e1 : ∀ i, i < k → bk (b.take k) i = bk b i := fun i hi => by
    unfold bk
    simp only [List.getD, List.getElem?_take]
    rw [if_pos hi]
  have e2 : ∀ i, bk (b.drop k) i = bk b (k + i) := fun i => by
    unfold bk
    simp only [List.getD, List.getElem?_drop]
  have l1 : (b.take k).length = k := by simp; omega
  have l2 : (b.drop k).length = b.length - k := by simp
  have c1 : Clean l (b.take k) := ⟨h.tree, by have := h.few; omega, fun i hi => by rw [e1 i (by omega)]; exact h.each i (by omega)⟩
  have c2 : Clean l (b.drop k) := ⟨h.tree, by have := h.few; omega, fun i hi => by rw [e2 i]; exact h.each _ (by omega)⟩
  refine ⟨?_, c1, c2⟩
  obtain ⟨f1, v1⟩ := taken_val c1 _ (Nat.le_refl _) q
  obtain ⟨f2, v2⟩ := taken_val c2 _ (Nat.le_refl _) q
  obtain ⟨f3, v3⟩ := taken_val h _ (Nat.le_refl _) q
  have u1 : ∀ t j, j ≤ k → useTo l (b.take k) q t j = useTo l b q t j := by
    intro t j
    induction j with
    | zero => intro _; rfl
    | succ j ih => intro hj; rw [useTo, useTo, ih (by omega), e1 j (by omega)]
  have u2 : ∀ t j, useTo l b q t (k + j) = useTo l b q t k + useTo l (b.drop k) q t j := by
    intro t j
    induction j with
    | zero => show useTo l b q t k = _; rw [useTo]; omega
    | succ j ih =>
      rw [show k + (j + 1) = (k + j) + 1 from by omega, useTo, ih, useTo, e2 j]
      omega
  have hsum : ∀ t, t < 48 → jv (fun x y => x + y) (takenTo l (b.take k) (b.take k).length q) (takenTo l (b.drop k) (b.drop k).length q) t = vals (takenTo l b b.length q) t := fun t ht => by
    show vals _ t + vals _ t = _
    rw [(v1 t ht).1, (v2 t ht).1, (v3 t ht).1, l1, l2, u1 t k (Nat.le_refl _)]
    have := u2 t (b.length - k)
    rw [show k + (b.length - k) = b.length from by omega] at this
    omega
  have ha : allTo (jv (fun x y => x + y) (takenTo l (b.take k) (b.take k).length q) (takenTo l (b.drop k) (b.drop k).length q)) 48 = true := by
    rw [allTo_iff]
    intro i hi
    rw [hsum i hi, bdd_iff]
    have := v3 i hi
    have := h.few
    omega
  rw [joinR, if_pos (by rw [fine_iff.2 f1, fine_iff.2 f2]; rfl), tell, if_pos ha, foldTo_congr 48 hsum, fold_self f3]
end Go.Proofs.Ytcgchicdmgllaad
