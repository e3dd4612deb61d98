/- Plain facts on room: the least that is left of a line's queues; what First answers. -/
import Derived.Test.YtcgchicdmgllaadRoomC
import Derived.Test.YtcgchicdmgllaadLoadK
import Derived.Test.YtcgchicdmgllaadPlaceM
namespace Go.Proofs.Ytcgchicdmgllaad

/-- what is left of queue p at t -/
def leftV (l : QL) (T : Nat → RunL) (p : Int) (t : Nat) : Int := vals (qu l p.toNat).runs t - vals (T p.toNat) t
def minTo (l : QL) (T : Nat → RunL) (t : Nat) : Int → List Int → Int
  | c, [] => c
  | c, p :: ps => minTo l T t (min c (leftV l T p t)) ps
theorem minTo_start (l : QL) (T : Nat → RunL) (t : Nat) (x : Int) : ∀ (ps : List Int) (c : Int), minTo l T t (min c x) ps = min x (minTo l T t c ps)
  | [], c => by simp only [minTo]; omega
  | p :: ps, c => by
    rw [minTo, minTo, ← minTo_start l T t x ps, show min (min c x) (leftV l T p t) = min (min c (leftV l T p t)) x from by omega]
theorem room_val {l : QL} {b : BL} (h : Clean l b) : ∀ (ps : List Int) (f : RunL), Fine f → (∀ p ∈ ps, 0 ≤ p ∧ p < l.length) → Fine (roomTo l (takenTo l b b.length) f ps) ∧ ∀ t, t < 48 → vals (roomTo l (takenTo l b b.length) f ps) t = minTo l (takenTo l b b.length) t (vals f t) ps
  | [], f, hf, _ => ⟨hf, fun t _ => rfl⟩
  | p :: ps, f, hf, hp => by
    have hp0 := hp p (by simp)
    obtain ⟨c1, c2⟩ := cap_val h.tree (p := p.toNat) (by omega)
    obtain ⟨t1, t2⟩ := taken_val h b.length (Nat.le_refl _) p.toNat
    have hfew := h.few
    obtain ⟨l1, _, l3⟩ := join_ok (jn := fun x y => x - y) c1 t1 (fun t ht => by have := c2 t; have := t2 t ht; omega)
    obtain ⟨m1, _, m3⟩ := join_ok (jn := fun x y => min x y) hf l1 (fun t ht => by have := fine_bd hf t; have := fine_bd l1 t; omega)
    obtain ⟨r1, r2⟩ := room_val h ps _ m1 (fun y hy => hp y (by simp [hy]))
    refine ⟨r1, fun t ht => ?_⟩
    rw [roomTo, r2 t ht, minTo, m3 t ht, l3 t ht]
    rfl
theorem line_in {l : QL} (hR : Right l) {q : Int} (h1 : q < l.length) : ∀ x ∈ lineOf l q, 0 ≤ x ∧ x < l.length := fun x hx => by
  have := (line_down hR (q.toNat + 1) q h1 (by omega)).2 x hx
  omega
theorem full_fine : Fine [(0, 1048576)] := fine_iff.1 (by decide)
theorem room_fine {l : QL} {b : BL} (h : Clean l b) {q : Int} (h1 : q < l.length) : Fine (roomR l b q) := (room_val h _ _ full_fine (line_in (right_of h.tree) h1)).1
/-- E1: of a queue there is no more room than of its Parent -/
theorem room_up {l : QL} {b : BL} (h : Clean l b) {q : Int} (h0 : 0 ≤ q) (h1 : q < l.length) : joinR (fun x y => min x y) (roomR l b q) (roomR l b (qu l q.toNat).parent) = (roomR l b q, 0) := by
  have hR := right_of h.tree
  have hp := hR.par q.toNat (by omega)
  have f1 := room_fine h h1
  have f2 := room_fine h (q := (qu l q.toNat).parent) (by omega)
  have hv : ∀ t, t < 48 → min (vals (roomR l b q) t) (vals (roomR l b (qu l q.toNat).parent) t) = vals (roomR l b q) t := fun t ht => by
    have e1 := (room_val h (lineOf l q) _ full_fine (line_in hR h1)).2 t ht
    have e2 := (room_val h (lineOf l (qu l q.toNat).parent) _ full_fine (line_in hR (by omega))).2 t ht
    rw [line_step hR h0 h1, minTo, minTo_start] at e1
    rw [← e2] at e1
    have e1' : vals (roomR l b q) t = min (leftV l (takenTo l b b.length) q t) (vals (roomR l b (qu l q.toNat).parent) t) := by
      show vals (roomTo l (takenTo l b b.length) [(0, 1048576)] (lineOf l q)) t = _
      rw [line_step hR h0 h1]
      exact e1
    omega
  have ha : allTo (jv (fun x y => min x y) (roomR l b q) (roomR l b (qu l q.toNat).parent)) 48 = true := by
    rw [allTo_iff]
    intro i hi
    show bdd (min _ _) = true
    rw [hv i hi]
    exact bdd_iff.2 (fine_bd f1 i)
  rw [joinR, if_pos (by rw [fine_iff.2 f1, fine_iff.2 f2]; rfl), tell, if_pos ha, show foldTo (jv (fun x y => min x y) (roomR l b q) (roomR l b (qu l q.toNat).parent)) 48 = foldTo (vals (roomR l b q)) 48 from foldTo_congr 48 hv, fold_self f1]

/-- Least over a span of L times -/
theorem least_in {f : RunL} (hf : fine f = true) {s L : Int} (h0 : 0 ≤ s) (hL : 1 ≤ L) (h1 : s + L ≤ 48) : leastR f s (s + L) = (lowTo (vals f) s.toNat L.toNat, 0) := by
  have hs : spn s (s + L) = true := by simp [spn]; omega
  rw [leastR, if_pos hf, if_pos hs, show (s + L).toNat - s.toNat = L.toNat from by omega]
theorem least_out {f : RunL} (hf : fine f = true) {s L : Int} (h1 : 48 < s + L) : (leastR f s (s + L)).2 = 3 := by
  have hs : spn s (s + L) = false := by
    rw [Bool.eq_false_iff]
    simp [spn]; omega
  rw [leastR, if_pos hf, hs]; rfl
/-- E2: what First answers, where it tells no error -/
theorem first_told {f : RunL} {fr L n : Int} (h : (firstR f fr 48 L n).2.2 = 0) : fine f = true ∧ 0 ≤ fr ∧ fr < 48 ∧ 1 ≤ L ∧ L ≤ 24 ∧
    ((∃ t : Nat, firstR f fr 48 L n = ((t : Int), true, 0) ∧ fr ≤ t ∧ (t : Int) + L ≤ 48 ∧ n ≤ lowTo (vals f) t L.toNat ∧ ∀ s : Nat, fr ≤ s → s < t → (s : Int) + L ≤ 48 → lowTo (vals f) s L.toNat < n) ∨
     (firstR f fr 48 L n = (0, false, 0) ∧ ∀ s : Nat, fr ≤ s → (s : Int) + L ≤ 48 → lowTo (vals f) s L.toNat < n)) := by
  unfold firstR at h ⊢
  by_cases hf : fine f = true
  · rw [if_pos hf] at h ⊢
    by_cases hs : (spn fr 48 && wth L 1 24) = true
    · rw [if_pos hs] at h ⊢
      rw [Bool.and_eq_true] at hs
      have s1 := of_decide_eq_true hs.1
      have s2 := of_decide_eq_true hs.2
      refine ⟨hf, by omega, by omega, by omega, by omega, ?_⟩
      have hno : ∀ s : Nat, roomy f (48 : Int).toNat L.toNat n s = false → (s : Int) + L ≤ 48 → lowTo (vals f) s L.toNat < n := fun s hr hl => by
        unfold roomy at hr
        have e1 : decide (s + L.toNat ≤ (48 : Int).toNat) = true := by
          rw [decide_eq_true_eq]
          show s + L.toNat ≤ 48
          omega
        rw [e1, Bool.true_and] at hr
        have := of_decide_eq_false hr
        omega
      cases ho : firstO f fr.toNat (48 : Int).toNat L.toNat n with
      | none =>
        refine Or.inr ⟨rfl, fun s g1 g2 => hno s (findFrom_none ho s (by omega) (by show s < fr.toNat + (48 - fr.toNat); omega)) g2⟩
      | some t =>
        obtain ⟨g1, g2, g3, g4⟩ := findFrom_some ho
        have g3' := g3
        unfold roomy at g3'
        rw [Bool.and_eq_true, decide_eq_true_iff, decide_eq_true_iff] at g3'
        have g5 : t + L.toNat ≤ 48 := g3'.1
        exact Or.inl ⟨t, rfl, by omega, by omega, g3'.2, fun s k1 k2 k3 => hno s (g4 s (by omega) k2) k3⟩
    · rw [if_neg hs] at h; simp at h
  · rw [if_neg hf] at h; simp at h
end Go.Proofs.Ytcgchicdmgllaad
