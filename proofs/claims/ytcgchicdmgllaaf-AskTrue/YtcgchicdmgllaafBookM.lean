/- Booking, plain: what is submitted is right; what is cancelled leaves room; two ticks are one. -/
import Derived.Test.YtcgchicdmgllaafPlanB
namespace Go.Proofs.Ytcgchicdmgllaaf

theorem bump_val {g : RunL} (hg : Fine g) {a b n : Int} (h : (bumpR g a b n).2 = 0) : Fine (bumpR g a b n).1 ∧ ∀ u : Nat, u < 48 → vals (bumpR g a b n).1 u = bumpV g a b n u := by
  unfold bumpR at h ⊢
  rw [if_pos (fine_iff.2 hg)] at h ⊢
  by_cases hs : (spn a b && bdd n) = true
  · rw [if_pos hs] at h ⊢
    unfold tell at h ⊢
    by_cases ha : allTo (bumpV g a b n) 48 = true
    · rw [if_pos ha]
      exact ⟨foldTo_fine _ 48 (by omega) (by omega) ha, fun u hu => foldTo_val _ ha u hu⟩
    · rw [if_neg ha] at h; cases h
  · rw [if_neg hs] at h; cases h
theorem nOf_at (r : Rq) (b : RunL) (i : Nat) : nOf r b i = nAt r b i := rfl
/-- what is left of f where the bites are taken away -/
theorem held_val {f : RunL} {X : Bk} (hf : Fine f) (hm : meets X.rq X.bs = true) : ∀ {k : Nat} {g : RunL}, k ≤ X.bs.length → heldTo f X.rq X.bs k = some g → Fine g ∧ ∀ u : Nat, u < 48 → vals g u = vals f u - bookTo X u k ∧ (bookTo X u k = 0 ∨ 0 ≤ vals g u)
  | 0, g, _, h => by
    simp [heldTo] at h
    subst h
    exact ⟨hf, fun u _ => by simp [bookTo]⟩
  | k + 1, g, hk, h => by
    rw [heldTo] at h
    cases hn : heldTo f X.rq X.bs k with
    | none => rw [hn] at h; cases h
    | some g0 =>
      rw [hn] at h
      simp only at h
      obtain ⟨i1, i2⟩ := held_val hf hm (k := k) (g := g0) (by omega) hn
      split at h
      · rename_i h1
        split at h
        · rename_i h2
          injection h with h
          subst h
          obtain ⟨j1, j2⟩ := bump_val i1 h1
          obtain ⟨m1, m2, m3, m4, m5, m6, m7, m8⟩ := bite_all hm (show k < X.bs.length by omega)
          have hl := (least_ok j1 m3 m5 m4).2.1 h2.2
          refine ⟨j1, fun u hu => ?_⟩
          have e1 := j2 u hu
          obtain ⟨e2, e3⟩ := i2 u hu
          have hb := (bookTo_bd hm u k (by omega)).1
          rw [bookTo]
          unfold bumpV at e1
          unfold biteV
          have hno : nOf X.rq X.bs k = nAt X.rq X.bs k := rfl
          by_cases hin : rN X.bs k ≤ u ∧ u < rN X.bs k + lenOf X.rq X.bs k
          · rw [if_pos hin] at e1
            rw [if_pos hin]
            have := hl u hin.1 hin.2
            omega
          · rw [if_neg hin] at e1
            rw [if_neg hin]
            omega
        · cases h
      · cases h
theorem bookTo_up {X : Bk} (hm : meets X.rq X.bs = true) (u : Nat) : ∀ {k n : Nat}, k ≤ n → n ≤ X.bs.length → bookTo X u k ≤ bookTo X u n
  | k, 0, h, _ => by obtain rfl : k = 0 := by omega
                     exact Int.le_refl _
  | k, n + 1, h, hn => by
    by_cases e : k = n + 1
    · subst e; exact Int.le_refl _
    · have h1 := bookTo_up hm u (k := k) (n := n) (by omega) (by omega)
      have h2 := (biteV_bd hm (k := n) (by omega) u).1
      rw [bookTo]
      omega
/-- where there is room for all bites together they are held -/
theorem held_of {f : RunL} {X : Bk} (hf : Fine f) (hm : meets X.rq X.bs = true) (hr : ∀ u : Nat, u < 48 → 0 < bookTo X u X.bs.length → bookTo X u X.bs.length ≤ vals f u) : heldB f X.rq X.bs = true := by
  have key : ∀ k, k ≤ X.bs.length → ∃ g, heldTo f X.rq X.bs k = some g := by
    intro k
    induction k with
    | zero => intro _; exact ⟨f, rfl⟩
    | succ k ih =>
      intro hk
      obtain ⟨g, hg⟩ := ih (by omega)
      obtain ⟨i1, i2⟩ := held_val hf hm (by omega) hg
      obtain ⟨m1, m2, m3, m4, m5, m6, m7, m8⟩ := bite_all hm (show k < X.bs.length by omega)
      refine ⟨_, held_next hg i1 ⟨m3, m5, m6, m4, m7, m8⟩ fun u h1 h2 => ?_⟩
      have hu : u < 48 := by omega
      have e1 := (i2 u hu).1
      have h3 : bookTo X u (k + 1) = bookTo X u k + nAt X.rq X.bs k := by
        rw [bookTo]
        unfold biteV
        rw [if_pos ⟨h1, h2⟩]
      have h4 := bookTo_up hm u (k := k + 1) (n := X.bs.length) (by omega) (Nat.le_refl _)
      have h5 := (bookTo_bd hm u k (by omega)).1
      have h6 := hr u hu (by omega)
      rw [nOf_at]
      omega
  obtain ⟨g, hg⟩ := key _ (Nat.le_refl _)
  unfold heldB
  rw [hg]
  rfl
theorem held_room2 {f : RunL} {X : Bk} (hf : Fine f) (hm : meets X.rq X.bs = true) (hh : heldB f X.rq X.bs = true) {u : Nat} (hu : u < 48) : bookTo X u X.bs.length = 0 ∨ bookTo X u X.bs.length ≤ vals f u := by
  unfold heldB at hh
  obtain ⟨g, hg⟩ := Option.isSome_iff_exists.1 hh
  obtain ⟨_, h2⟩ := held_val hf hm (Nat.le_refl _) hg
  obtain ⟨h3, h4⟩ := h2 u hu
  rcases h4 with h4 | h4
  · exact Or.inl h4
  · exact Or.inr (by omega)

/-- a queue's room is no more than what each of its line has left -/
theorem room_le {l : QL} {b : BL} (h : Clean l b) {q : Int} (h1 : q < l.length) {p : Nat} (hp : (p : Int) ∈ lineOf l q) {t : Nat} (ht : t < 48) : vals (roomR l b q) t ≤ vals (qu l p).runs t - useTo l b p t b.length := by
  have e := (room_val h (lineOf l q) _ full_fine (line_in (right_of h.tree) h1)).2 t ht
  show vals (roomTo l (takenTo l b b.length) [(0, 1048576)] (lineOf l q)) t ≤ _
  rw [e]
  have key : ∀ (ps : List Int) (x : Int), minTo l (takenTo l b b.length) t x ps ≤ x ∧ ∀ y ∈ ps, minTo l (takenTo l b b.length) t x ps ≤ leftV l (takenTo l b b.length) y t := by
    intro ps
    induction ps with
    | nil => intro x; exact ⟨Int.le_refl _, fun y hy => by cases hy⟩
    | cons z ps ih =>
      intro x
      rw [minTo]
      obtain ⟨h1, h2⟩ := ih (min x (leftV l (takenTo l b b.length) z t))
      refine ⟨by omega, fun y hy => ?_⟩
      rcases List.mem_cons.1 hy with e | hy
      · subst e; omega
      · exact h2 y hy
  have := (key (lineOf l q) (vals [(0, 1048576)] t)).2 p hp
  unfold leftV at this
  rw [Int.toNat_natCast, ((taken_val h b.length (Nat.le_refl _) p).2 t ht).1] at this
  exact this
/-- and where each of them has so much left the queue has -/
theorem room_ge {l : QL} {b : BL} (h : Clean l b) {q : Int} (h1 : q < l.length) {t : Nat} (ht : t < 48) {x : Int} (hx : x ≤ 1048576) (hp : ∀ p : Nat, (p : Int) ∈ lineOf l q → x ≤ vals (qu l p).runs t - useTo l b p t b.length) : x ≤ vals (roomR l b q) t := by
  have e := (room_val h (lineOf l q) _ full_fine (line_in (right_of h.tree) h1)).2 t ht
  show x ≤ vals (roomTo l (takenTo l b b.length) [(0, 1048576)] (lineOf l q)) t
  rw [e]
  have hv : vals [(0, 1048576)] t = 1048576 := by
    have hs := full_fine
    obtain ⟨j, hj⟩ := reached_ex hs.rises (t := (t : Int)) (by omega)
    have hv := hj.val hs.rises
    have : j = 0 := by have := hj.1; simp at this; omega
    subst this
    rw [show vals [(0, 1048576)] t = valAt [(0, 1048576)] t from rfl, ← hv]
    rfl
  rw [hv]
  have key : ∀ (ps : List Int) (y : Int), x ≤ y → (∀ p ∈ ps, x ≤ leftV l (takenTo l b b.length) p t) → x ≤ minTo l (takenTo l b b.length) t y ps := by
    intro ps
    induction ps with
    | nil => intro y hy _; exact hy
    | cons z ps ih =>
      intro y hy hps
      rw [minTo]
      exact ih _ (by have := hps z (by simp); omega) (fun p hp => hps p (by simp [hp]))
  refine key _ _ hx fun p hpm => ?_
  have hpl := line_in (right_of h.tree) h1 p hpm
  have := hp p.toNat (by rw [Int.toNat_of_nonneg hpl.1]; exact hpm)
  unfold leftV
  rw [((taken_val h b.length (Nat.le_refl _) p.toNat).2 t ht).1]
  exact this

theorem bk_app {b : BL} {x : Bk} {i : Nat} (h : i < b.length) : bk (b ++ [x]) i = bk b i := by unfold bk; simp [List.getD, List.getElem?_append_left h]
theorem bk_end {b : BL} {x : Bk} : bk (b ++ [x]) b.length = x := by unfold bk; simp [List.getD]
/-- H1: what is submitted is right -/
theorem submit_sound {c n : Int} {l : QL} {b : BL} {X : Bk} (h : Sound c n l b) (hid : X.id = n) (hq : chkQR l X.rq = 0) (hfr : c ≤ X.rq.fr) (h12 : b.length < 12) (hn : n < 1048576)
    (hm : meets X.rq X.bs = true) (hh : heldB (roomR l b X.rq.queue) X.rq X.bs = true) : Sound c (n + 1) l (b ++ [X]) := by
  have hchk : chkB l X = 0 := by unfold chkB; rw [if_pos hq, if_pos hm]
  have hcl : Clean l (b ++ [X]) := ⟨h.clean.tree, by simp; omega, fun i hi => by
    by_cases e : i < b.length
    · rw [bk_app e]; exact h.clean.each i e
    · obtain rfl : i = b.length := by simp at hi; omega
      rw [bk_end]; exact hchk⟩
  obtain ⟨_, q0, q1⟩ := no_error_at h.clean.tree hchk
  have hF := room_fine h.clean q1
  have hn0 := h.n0
  refine ⟨hcl, h.c0, h.c48, by omega, by omega, fun i hi => ?_, fun i hi => ?_, fun q hq t ht1 ht2 => ?_⟩
  · by_cases e : i < b.length
    · rw [bk_app e]
      have h1 := h.rise i e
      refine ⟨?_, by omega⟩
      have h2 := h1.1
      unfold leastId at h2 ⊢
      by_cases e0 : i = 0
      · rw [if_pos e0] at h2 ⊢; exact h2
      · rw [if_neg e0] at h2 ⊢
        rw [bk_app (by omega)]
        exact h2
    · obtain rfl : i = b.length := by simp at hi; omega
      rw [bk_end, hid]
      refine ⟨?_, by omega⟩
      unfold leastId
      split
      · exact hn0
      · rename_i e0
        rw [bk_app (by omega)]
        have := (h.rise (b.length - 1) (by omega)).2
        omega
  · by_cases e : i < b.length
    · rw [bk_app e]; exact h.alive i e
    · obtain rfl : i = b.length := by simp at hi; omega
      rw [bk_end, (overV_met hm).2]
      have := meets_bounds hm
      omega
  · rw [use_all, List.map_append, List.sum_append, ← use_all]
    simp only [List.map_cons, List.map_nil, List.sum_cons, List.sum_nil]
    have h1 := h.fits q hq t ht1 ht2
    unfold oneV
    split
    · rename_i hl
      rcases held_room2 hF hm hh ht2 with h2 | h2
      · omega
      · have := room_le h.clean q1 hl ht2
        omega
    · omega

theorem drop_mem {b : BL} {i : Nat} {x : Bk} (h : x ∈ b.take i ++ b.drop (i + 1)) : x ∈ b := by
  rcases List.mem_append.1 h with h | h
  · exact List.mem_of_mem_take h
  · exact List.mem_of_mem_drop h
theorem bk_without {b : BL} {i j : Nat} (hi : i < b.length) : bk (b.take i ++ b.drop (i + 1)) j = if j < i then bk b j else bk b (j + 1) := by
  unfold bk
  rw [List.getD_eq_getElem?_getD, List.getElem?_append]
  have hl : (b.take i).length = i := by simp; omega
  rw [hl]
  by_cases e : j < i
  · rw [if_pos e, if_pos e, List.getElem?_take, if_pos e, List.getD_eq_getElem?_getD]
  · rw [if_neg e, if_neg e, List.getElem?_drop, List.getD_eq_getElem?_getD, show i + 1 + (j - i) = j + 1 from by omega]
/-- a right state without one of its books -/
theorem without_sound {c n : Int} {l : QL} {b : BL} (h : Sound c n l b) {i : Nat} (hi : i < b.length) : Sound c n l (b.take i ++ b.drop (i + 1)) := by
  have hlen : (b.take i ++ b.drop (i + 1)).length = b.length - 1 := by simp; omega
  have hcl : Clean l (b.take i ++ b.drop (i + 1)) := clean_sub h.clean (by have := h.clean.few; omega) (fun x hx => drop_mem hx)
  refine ⟨hcl, h.c0, h.c48, h.n0, h.n1, fun j hj => ?_, fun j hj => ?_, fun q hq t ht1 ht2 => ?_⟩
  · rw [hlen] at hj
    rw [bk_without hi]
    unfold leastId
    rw [bk_without hi]
    by_cases e : j < i
    · rw [if_pos e]
      have h1 := h.rise j (by omega)
      unfold leastId at h1
      by_cases e0 : j = 0
      · rw [if_pos e0] at h1 ⊢; exact h1
      · rw [if_neg e0] at h1 ⊢
        rw [if_pos (by omega)]
        exact h1
    · rw [if_neg e]
      have h1 := h.rise (j + 1) (by omega)
      have h2 := ids_low h (show j + 1 < b.length by omega)
      refine ⟨?_, h1.2⟩
      by_cases e0 : j = 0
      · rw [if_pos e0]; exact h2.1
      · rw [if_neg e0]
        by_cases e1 : j - 1 < i
        · rw [if_pos e1]
          have := ids_rise h (j := j + 1) (by omega) (i := j - 1) (by omega)
          omega
        · rw [if_neg e1, show j - 1 + 1 = j from by omega]
          have := ids_rise h (j := j + 1) (by omega) (i := j) (by omega)
          omega
  · rw [hlen] at hj
    rw [bk_without hi]
    split
    · exact h.alive j (by omega)
    · exact h.alive (j + 1) (by omega)
  · have h1 := h.fits q hq t ht1 ht2
    rw [use_all, sum_parts l q t hi] at h1
    have h2 := (oneV_bd (l := l) (clean_at h.clean (bk_mem hi)).1 q t).1
    rw [use_all]
    omega
/-- BookFree's: without it there is room for what it had -/
theorem free_held {c n : Int} {l : QL} {b : BL} (h : Sound c n l b) {i : Nat} (hi : i < b.length) (hfr : c ≤ (bk b i).rq.fr) : heldB (roomR l (b.take i ++ b.drop (i + 1)) (bk b i).rq.queue) (bk b i).rq (bk b i).bs = true := by
  have hcl := (without_sound h hi).clean
  obtain ⟨hm, q0, q1⟩ := clean_at h.clean (bk_mem hi)
  refine held_of (X := bk b i) (room_fine hcl q1) hm fun u hu hpos => ?_
  have hbd := bookTo_bd hm u (bk b i).bs.length (Nat.le_refl _)
  have hfew := meets_few hm
  have hcu : c ≤ u := by
    -- at u something is taken: a bite began there or sooner, from From on
    have key : ∀ k, k ≤ (bk b i).bs.length → 0 < bookTo (bk b i) u k → (bk b i).rq.fr ≤ u := by
      intro k
      induction k with
      | zero => intro _ h0; simp [bookTo] at h0
      | succ k ih =>
        intro hk h0
        rw [bookTo] at h0
        by_cases h1 : 0 < bookTo (bk b i) u k
        · exact ih (by omega) h1
        · unfold biteV at h0
          split at h0
          · rename_i hin
            have hbo := ((meets_split.1 hm).2.2 k (by omega))
            have := (inTime_at (biteOk_at hbo).2.1).1
            omega
          · omega
    have := key _ (Nat.le_refl _) hpos
    omega
  refine room_ge hcl q1 hu (by omega) fun p hp => ?_
  have hpl := line_in (right_of h.clean.tree) q1 p hp
  have h1 := h.fits p (by omega) u hcu hu
  rw [use_all, sum_parts l p u hi] at h1
  have h2 : oneV l p u (bk b i) = bookTo (bk b i) u (bk b i).bs.length := by unfold oneV; rw [if_pos hp]
  rw [use_all]
  omega
end Go.Proofs.Ytcgchicdmgllaaf
