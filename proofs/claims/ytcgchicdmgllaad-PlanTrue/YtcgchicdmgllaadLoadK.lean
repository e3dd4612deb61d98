/- Plain facts on what is taken: what queues have; the books' order does not matter; of a Parent no less is taken; what Fits says. -/
import Derived.Test.YtcgchicdmgllaadLoadM
import Derived.Test.YtcgchicdmgllaadLoadF
namespace Go.Proofs.Ytcgchicdmgllaad

theorem capTo_iff {l : RunL} : ∀ {n : Nat}, capTo l n = true → ∀ k, k < n → 0 ≤ rN l k ∧ rN l k ≤ 50
  | 0, _, k, hk => by omega
  | n + 1, h, k, hk => by
    rw [capTo, Bool.and_eq_true] at h
    by_cases e : k = n
    · subst e; exact of_decide_eq_true h.2
    · exact capTo_iff h.1 k (by omega)
theorem cap_val {l : QL} (h : chkT l = 0) {p : Nat} (hp : p < l.length) : Fine (qu l p).runs ∧ ∀ t : Nat, 0 ≤ vals (qu l p).runs t ∧ vals (qu l p).runs t ≤ 50 := by
  have hc : capsOk l = true := by
    unfold chkT at h
    revert h
    repeat' split
    all_goals simp_all
  have h1 := allQ_iff.1 hc p hp
  simp only [capFine, Bool.and_eq_true] at h1
  have hF := fine_iff.1 h1.1
  refine ⟨hF, fun t => ?_⟩
  obtain ⟨j, hj⟩ := reached_ex hF.rises (t := (t : Int)) (by omega)
  have := capTo_iff h1.2 j hj.1
  rw [show vals (qu l p).runs t = valAt (qu l p).runs t from rfl, ← hj.val hF.rises]
  exact this
theorem join_ok {jn : Int → Int → Int} {f g : RunL} (hf : Fine f) (hg : Fine g) (h : ∀ t, t < 48 → -1048576 ≤ jn (vals f t) (vals g t) ∧ jn (vals f t) (vals g t) ≤ 1048576) : Fine (joinR jn f g).1 ∧ (joinR jn f g).2 = 0 ∧ ∀ t, t < 48 → vals (joinR jn f g).1 t = jn (vals f t) (vals g t) := by
  have ha : allTo (jv jn f g) 48 = true := by
    rw [allTo_iff]
    intro i hi
    rw [bdd_iff]
    exact h i hi
  have he : joinR jn f g = (foldTo (jv jn f g) 48, 0) := by rw [joinR, if_pos (by rw [fine_iff.2 hf, fine_iff.2 hg]; rfl), tell, if_pos ha]
  rw [he]
  exact ⟨foldTo_fine _ 48 (by omega) (by omega) ha, rfl, fun t ht => foldTo_val _ ha t ht⟩
theorem fine_bd {f : RunL} (h : Fine f) (t : Nat) : -1048576 ≤ vals f t ∧ vals f t ≤ 1048576 := bdd_iff.1 (valAt_bdd h (t : Int) (by omega))

/-- what one book takes of queue q at t -/
def oneV (l : QL) (q t : Nat) (x : Bk) : Int := if (q : Int) ∈ lineOf l x.rq.queue then bookTo x t x.bs.length else 0
theorem use_sum (l : QL) (b : BL) (q t : Nat) : ∀ j, j ≤ b.length → useTo l b q t j = ((b.take j).map (oneV l q t)).sum
  | 0, _ => by simp [useTo]
  | j + 1, hj => by
    have hlt : j < b.length := by omega
    have e : bk b j = b[j] := by simp [bk, List.getD, hlt]
    rw [useTo, use_sum l b q t j (by omega), List.take_succ_eq_append_getElem hlt, List.map_append, List.sum_append, e]
    simp [oneV]
theorem use_all (l : QL) (b : BL) (q t : Nat) : useTo l b q t b.length = (b.map (oneV l q t)).sum := by
  rw [use_sum l b q t b.length (Nat.le_refl _), List.take_length]
/-- runs that say the same at each time are the same -/
theorem fine_ext {f g : RunL} (hf : Fine f) (hg : Fine g) (h : ∀ t, t < 48 → vals f t = vals g t) : f = g := by
  rw [← fold_self hf, ← fold_self hg, foldTo_congr 48 h]
theorem taken_same {l : QL} {b c : BL} (hb : Clean l b) (hc : Clean l c) (h : ∀ q t, (b.map (oneV l q t)).sum = (c.map (oneV l q t)).sum) (q : Nat) : takenTo l b b.length q = takenTo l c c.length q := by
  obtain ⟨f1, v1⟩ := taken_val hb _ (Nat.le_refl _) q
  obtain ⟨f2, v2⟩ := taken_val hc _ (Nat.le_refl _) q
  refine fine_ext f1 f2 fun t ht => ?_
  rw [(v1 t ht).1, (v2 t ht).1, use_all, use_all, h]
/-- one who stands in a line has its Parent there -/
theorem line_up {l : QL} (hR : Right l) {q : Nat} (hq : q < l.length) (h0 : 0 ≤ (qu l q).parent) : ∀ (m : Nat) (k : Int), k < l.length → k < m → (q : Int) ∈ lineOf l k → (qu l q).parent ∈ lineOf l k
  | 0, k, h1, h2, hm => by rw [line_nil (by omega)] at hm; cases hm
  | m + 1, k, h1, h2, hm => by
    by_cases e : k < 0
    · rw [line_nil e] at hm; cases hm
    · have hp := hR.par k.toNat (by omega)
      rw [line_step hR (by omega) h1] at hm ⊢
      rcases List.mem_cons.1 hm with e2 | hm
      · have e3 : k.toNat = q := by omega
        have hpq := hR.par q hq
        rw [e3, line_step hR h0 (by omega)]
        simp
      · exact List.mem_cons_of_mem _ (line_up hR hq h0 m _ (by omega) (by omega) hm)

theorem bk_get {b : BL} {i : Nat} (h : i < b.length) : bk b i = b[i] := by simp [bk, List.getD, h]
theorem bk_mem {b : BL} {i : Nat} (h : i < b.length) : bk b i ∈ b := by rw [bk_get h]; exact List.getElem_mem h
theorem mem_bk {b : BL} {x : Bk} (h : x ∈ b) : ∃ i, i < b.length ∧ bk b i = x := by
  obtain ⟨i, hi, e⟩ := List.getElem_of_mem h
  exact ⟨i, hi, by rw [bk_get hi, e]⟩
theorem clean_sub {l : QL} {b c : BL} (h : Clean l b) (hc : c.length ≤ 12) (hs : ∀ x ∈ c, x ∈ b) : Clean l c :=
  ⟨h.tree, hc, fun i hi => by
    obtain ⟨j, hj, e⟩ := mem_bk (hs _ (bk_mem hi))
    rw [← e]
    exact h.each j hj⟩
theorem clean_at {l : QL} {b : BL} (h : Clean l b) {x : Bk} (hx : x ∈ b) : meets x.rq x.bs = true ∧ 0 ≤ x.rq.queue ∧ x.rq.queue < l.length := by
  obtain ⟨i, hi, rfl⟩ := mem_bk hx
  exact no_error_at h.tree (h.each i hi)
theorem oneV_bd {l : QL} {x : Bk} (h : meets x.rq x.bs = true) (q t : Nat) : 0 ≤ oneV l q t x ∧ oneV l q t x ≤ 150 := by
  have := bookTo_bd h t x.bs.length (Nat.le_refl _)
  have := meets_few h
  unfold oneV
  split <;> omega
theorem sum_bd {l : QL} {q t : Nat} : ∀ {b : BL}, (∀ x ∈ b, meets x.rq x.bs = true) → 0 ≤ (b.map (oneV l q t)).sum
  | [], _ => by simp
  | x :: b, h => by
    have h1 := (oneV_bd (l := l) (h x (by simp)) q t).1
    have h2 := sum_bd (l := l) (q := q) (t := t) (b := b) (fun y hy => h y (by simp [hy]))
    simp only [List.map_cons, List.sum_cons]
    omega
/-- a list without its i-th -/
theorem parts_of {b : BL} {i : Nat} (h : i < b.length) : b = b.take i ++ bk b i :: b.drop (i + 1) := by
  rw [bk_get h, List.getElem_cons_drop, List.take_append_drop]
theorem sum_parts (l : QL) (q t : Nat) {b : BL} {i : Nat} (h : i < b.length) : (b.map (oneV l q t)).sum = oneV l q t (bk b i) + ((b.take i ++ b.drop (i + 1)).map (oneV l q t)).sum := by
  conv => lhs; rw [parts_of h]
  simp only [List.map_append, List.map_cons, List.sum_append, List.sum_cons]
  omega
/-- of a Parent no less is taken -/
theorem use_up {l : QL} {b : BL} (h : Clean l b) {q p : Nat} (hq : q < l.length) (hp : (qu l q).parent = p) (t : Nat) : ∀ j, j ≤ b.length → useTo l b q t j ≤ useTo l b p t j
  | 0, _ => Int.le_refl _
  | j + 1, hj => by
    have h1 := use_up h hq hp t j (by omega)
    obtain ⟨m1, m2, m3⟩ := no_error_at h.tree (h.each j (by omega))
    have hb := (bookTo_bd m1 t (bk b j).bs.length (Nat.le_refl _)).1
    rw [useTo, useTo]
    by_cases e : (q : Int) ∈ lineOf l (bk b j).rq.queue
    · have := line_up (right_of h.tree) hq (by omega) ((bk b j).rq.queue.toNat + 1) (bk b j).rq.queue m3 (by omega) e
      rw [hp] at this
      rw [if_pos e, if_pos this]
      omega
    · rw [if_neg e]
      split <;> omega

theorem short_iff {l : QL} {b : BL} (h : Clean l b) {q : Nat} (hq : q < l.length) {fm : Int} (h0 : 0 ≤ fm) (h1 : fm ≤ 48) :
    shortR (qu l q).runs (takenTo l b b.length q) fm = false ↔ ∀ t : Nat, fm ≤ t → t < 48 → useTo l b q t b.length ≤ vals (qu l q).runs t := by
  obtain ⟨c1, c2⟩ := cap_val h.tree hq
  obtain ⟨t1, t2⟩ := taken_val h b.length (Nat.le_refl _) q
  have hfew := h.few
  obtain ⟨l1, _, l3⟩ := join_ok (jn := fun x y => x - y) c1 t1 (fun t ht => by have := c2 t; have := t2 t ht; omega)
  unfold shortR
  by_cases e : fm = 48
  · rw [if_pos e]
    exact ⟨fun _ t h2 h3 => by omega, fun _ => rfl⟩
  · rw [if_neg e]
    obtain ⟨g, hg⟩ : ∃ g, (joinR (fun x y => x - y) (qu l q).runs (takenTo l b b.length q)).1 = g := ⟨_, rfl⟩
    rw [hg] at l1 l3 ⊢
    have hl : leastR g fm 48 = (lowTo (vals g) fm.toNat (48 - fm.toNat), 0) := by
      unfold leastR
      rw [if_pos (fine_iff.2 l1), if_pos (by simp [spn]; omega)]
      rfl
    rw [hl]
    have hlow := lowTo_low (vals g) fm.toNat (48 - fm.toNat) (by omega)
    rw [show fm.toNat + (48 - fm.toNat) = 48 by omega] at hlow
    obtain ⟨a1, s, a2, a3, a4⟩ := hlow
    rw [decide_eq_false_iff_not]
    constructor
    · intro hn t h2 h3
      have := a1 t (by omega) h3
      rw [l3 t h3, (t2 t h3).1] at this
      simp only at hn
      omega
    · intro hall hn
      simp only at hn
      have := hall s (by omega) a3
      rw [a4, l3 s a3, (t2 s a3).1] at hn
      omega
theorem fitsTo_iff {l : QL} {T : Nat → RunL} {fm : Int} : ∀ {n : Nat}, fitsTo l T fm n = true ↔ ∀ q, q < n → shortR (qu l q).runs (T q) fm = false
  | 0 => by simp [fitsTo]
  | n + 1 => by
    simp only [fitsTo, Bool.and_eq_true, fitsTo_iff (n := n), Bool.not_eq_true']
    constructor
    · rintro ⟨h1, h2⟩ q hq
      by_cases e : q = n
      · subst e; exact h2
      · exact h1 q (by omega)
    · intro h
      exact ⟨fun q hq => h q (by omega), h n (by omega)⟩
theorem fitsE_ok {l : QL} {b : BL} (h : Clean l b) {fm : Int} (h0 : 0 ≤ fm) (h1 : fm ≤ 48) : fitsE l b fm = 0 := by
  unfold fitsE
  rw [if_pos (chkL_clean h), if_neg (by omega)]
/-- D2 -/
theorem fits_iff {l : QL} {b : BL} (h : Clean l b) {fm : Int} (h0 : 0 ≤ fm) (h1 : fm ≤ 48) :
    fitsR l b fm = true ↔ ∀ q : Nat, q < l.length → ∀ t : Nat, fm ≤ t → t < 48 → useTo l b q t b.length ≤ vals (qu l q).runs t := by
  unfold fitsR
  rw [if_pos (fitsE_ok h h0 h1), fitsTo_iff]
  constructor
  · intro hh q hq
    exact (short_iff h hq h0 h1).1 (hh q hq)
  · intro hh q hq
    exact (short_iff h hq h0 h1).2 (hh q hq)
end Go.Proofs.Ytcgchicdmgllaad
