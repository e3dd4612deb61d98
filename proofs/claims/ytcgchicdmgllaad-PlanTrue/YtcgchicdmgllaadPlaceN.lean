/- Plain facts on places: what is found meets the request and there is room for it; where there is a place one is found, and none that is over sooner. -/
import Derived.Test.YtcgchicdmgllaadPlaceC
import Derived.Test.YtcgchicdmgllaadPlaceH
namespace Go.Proofs.Ytcgchicdmgllaad

theorem fine_of {f : RunL} (h : fine f = true) : Fine f := fine_iff.1 h
/-- room for piece k in g, from s on -/
def Roomy (r : Rq) (g : RunL) (k s : Nat) : Prop := (s : Int) + rAt r.ps k ≤ r.un ∧ ∀ u : Nat, s ≤ u → (u : Int) < s + rAt r.ps k → rN r.ps k ≤ vals g u
theorem roomy_of {r : Rq} (hc : chkR false r = 0) {g : RunL} {k s : Nat} (hk : k < r.ps.length) : roomy g r.un.toNat (rAt r.ps k).toNat (rN r.ps k) s = true ↔ Roomy r g k s := by
  have hp := piece_at hc hk
  have hs := spn_at hc
  rw [roomy_iff (by omega)]
  constructor
  · rintro ⟨h1, h2⟩
    exact ⟨by omega, fun u g1 g2 => h2 u g1 (by omega)⟩
  · rintro ⟨h1, h2⟩
    exact ⟨by omega, fun u g1 g2 => h2 u g1 (by omega)⟩
theorem fst_hit {r : Rq} (hc : chkR false r = 0) {g : RunL} {fm : Int} {k : Nat} (hk : k < r.ps.length) (h : (fst3 r g fm k).2.1 = true) :
    Fine g ∧ ∃ F t : Nat, fm = F ∧ (fst3 r g fm k).1 = t ∧ F ≤ t ∧ Roomy r g k t ∧ ∀ s, F ≤ s → s < t → ¬ Roomy r g k s := by
  unfold fst3 firstR at h ⊢
  by_cases h1 : fine g = true
  · rw [if_pos h1] at h ⊢
    by_cases h2 : (spn fm r.un && wth (rAt r.ps k) 1 24) = true
    · rw [if_pos h2] at h ⊢
      rw [Bool.and_eq_true] at h2
      have h3 := h2.1
      simp [spn] at h3
      cases h4 : firstO g fm.toNat r.un.toNat (rAt r.ps k).toNat (rN r.ps k) with
      | none => rw [h4] at h; cases h
      | some t =>
        obtain ⟨g1, g2, g3, g4⟩ := findFrom_some h4
        refine ⟨fine_of h1, fm.toNat, t, by omega, rfl, g1, (roomy_of hc hk).1 g3, fun s k1 k2 hr => ?_⟩
        have := g4 s k1 k2
        rw [(roomy_of hc hk).2 hr] at this
        cases this
    · rw [if_neg h2] at h; cases h
  · rw [if_neg h1] at h; cases h
theorem fst_any {r : Rq} (hc : chkR false r = 0) {g : RunL} {fm : Int} {k s : Nat} (hk : k < r.ps.length) (hg : Fine g) (h0 : 0 ≤ fm) (h1 : fm ≤ s) (hr : Roomy r g k s) : (fst3 r g fm k).2.1 = true ∧ (fst3 r g fm k).1 ≤ s := by
  have hp := piece_at hc hk
  have hs := spn_at hc
  have h2 : (spn fm r.un && wth (rAt r.ps k) 1 24) = true := by
    rw [Bool.and_eq_true]
    have := hr.1
    constructor
    · simp [spn]; omega
    · simp [wth]; omega
  unfold fst3 firstR
  rw [if_pos (fine_iff.2 hg), if_pos h2]
  have hps := (roomy_of hc hk).2 hr
  have hlt : s < r.un.toNat := by have := hr.1; omega
  cases h4 : firstO g fm.toNat r.un.toNat (rAt r.ps k).toNat (rN r.ps k) with
  | none =>
    have := findFrom_none h4 s (by omega) (by omega)
    rw [hps] at this
    cases this
  | some t =>
    obtain ⟨g1, g2, g3, g4⟩ := findFrom_some h4
    refine ⟨rfl, ?_⟩
    show (t : Int) ≤ s
    by_cases e : t ≤ s
    · omega
    · have := g4 s (by omega) (by omega)
      rw [hps] at this
      cases this

theorem bump_ok {g : RunL} (hg : Fine g) {t L M : Int} (h0 : 0 ≤ t) (hL : 1 ≤ L) (hu : t + L ≤ 48) (hM : 1 ≤ M ∧ M ≤ 50) (hr : ∀ u : Nat, t ≤ u → (u : Int) < t + L → M ≤ vals g u) :
    (bumpR g t (t + L) (-M)).2 = 0 ∧ Fine (bumpR g t (t + L) (-M)).1 ∧ ∀ u : Nat, u < 48 → vals (bumpR g t (t + L) (-M)).1 u = if t ≤ u ∧ (u : Int) < t + L then vals g u - M else vals g u := by
  have hs : (spn t (t + L) && bdd (-M)) = true := by
    rw [Bool.and_eq_true]
    constructor
    · simp [spn]; omega
    · rw [bdd_iff]; omega
  have ha : allTo (bumpV g t (t + L) (-M)) 48 = true := by
    rw [allTo_iff]
    intro i hi
    have hb := bdd_iff.1 (valAt_bdd hg (i : Int) (by omega))
    rw [bdd_iff]
    unfold bumpV
    split
    · rename_i hh
      have := hr i hh.1 hh.2
      have hb' : -1048576 ≤ vals g i ∧ vals g i ≤ 1048576 := hb
      omega
    · exact hb
  have he : bumpR g t (t + L) (-M) = (foldTo (bumpV g t (t + L) (-M)) 48, 0) := by
    rw [bumpR, if_pos (fine_iff.2 hg), if_pos hs, tell, if_pos ha]
  rw [he]
  refine ⟨rfl, foldTo_fine _ 48 (by omega) (by omega) ha, fun u hu2 => ?_⟩
  show vals (foldTo (bumpV g t (t + L) (-M)) 48) u = _
  rw [show vals (foldTo (bumpV g t (t + L) (-M)) 48) u = bumpV g t (t + L) (-M) u from foldTo_val _ ha u hu2]
  unfold bumpV
  split <;> omega
theorem least_ok {g : RunL} (hg : Fine g) {t L : Int} (h0 : 0 ≤ t) (hL : 1 ≤ L) (hu : t + L ≤ 48) : (leastR g t (t + L)).2 = 0 ∧ (0 ≤ (leastR g t (t + L)).1 ↔ ∀ u : Nat, t ≤ u → (u : Int) < t + L → 0 ≤ vals g u) := by
  have hs : spn t (t + L) = true := by simp [spn]; omega
  have he : leastR g t (t + L) = (lowTo (vals g) t.toNat ((t + L).toNat - t.toNat), 0) := by rw [leastR, if_pos (fine_iff.2 hg), if_pos hs]
  rw [he]
  obtain ⟨h1, s, h2, h3, h4⟩ := lowTo_low (vals g) t.toNat ((t + L).toNat - t.toNat) (by omega)
  refine ⟨rfl, ?_⟩
  show 0 ≤ lowTo (vals g) t.toNat ((t + L).toNat - t.toNat) ↔ _
  constructor
  · intro h u g1 g2
    have := h1 u (by omega) (by omega)
    omega
  · intro h
    rw [h4]
    exact h s (by omega) (by omega)

/-- what a bite wants, where it is -/
structure BiteAt (r : Rq) (b : RunL) (k : Nat) : Prop where
  t0 : 0 ≤ rN b k
  l1 : 1 ≤ lenOf r b k
  l24 : lenOf r b k ≤ 24
  u48 : rN b k + lenOf r b k ≤ 48
  n1 : 1 ≤ nOf r b k
  n50 : nOf r b k ≤ 50
theorem bite_at {r : Rq} {b : RunL} {k : Nat} (hc : chkR false r = 0) (h : isPiece r b k = true) (ht : inTime r b k = true) : BiteAt r b k := by
  have g3 := inTime_at ht
  have g5 := isPiece_at h
  have g6 := lenOf_at hc h
  have g7 := piece_at hc (k := (rAt b k).toNat) (by omega)
  have hs := spn_at hc
  exact ⟨by omega, g6.1, g6.2, by omega, g7.2.2.1, g7.2.2.2⟩
theorem held_next {f g : RunL} {r : Rq} {b : RunL} {k : Nat} (h : heldTo f r b k = some g) (hg : Fine g) (hb : BiteAt r b k) (hr : ∀ u : Nat, rN b k ≤ u → (u : Int) < rN b k + lenOf r b k → nOf r b k ≤ vals g u) :
    heldTo f r b (k + 1) = some (bumpR g (rN b k) (rN b k + lenOf r b k) (-nOf r b k)).1 := by
  obtain ⟨b1, b2, b3⟩ := bump_ok hg hb.t0 hb.l1 hb.u48 ⟨hb.n1, hb.n50⟩ hr
  obtain ⟨l1, l2⟩ := least_ok b2 hb.t0 hb.l1 hb.u48
  have hl := l2.2 fun u g1 g2 => by
    have hu := hb.u48
    rw [b3 u (by omega), if_pos ⟨g1, g2⟩]
    have := hr u g1 g2
    omega
  rw [heldTo, h]
  simp only
  rw [if_pos b1, if_pos ⟨l1, hl⟩]
/-- what is held had room, in the room that there was -/
theorem held_room {f : RunL} {r : Rq} {b : RunL} (hf : Fine f) : ∀ {n : Nat} {g : RunL}, heldTo f r b n = some g → (∀ k, k < n → BiteAt r b k) → Fine g ∧ (∀ u : Nat, u < 48 → vals g u ≤ vals f u) ∧ ∀ k, k < n → ∀ u : Nat, rN b k ≤ u → (u : Int) < rN b k + lenOf r b k → nOf r b k ≤ vals f u
  | 0, g, h, _ => by
    simp [heldTo] at h
    subst h
    exact ⟨hf, fun u _ => Int.le_refl _, fun k hk => by omega⟩
  | n + 1, g, h, hb => by
    rw [heldTo] at h
    cases hn : heldTo f r b n with
    | none => rw [hn] at h; cases h
    | some g0 =>
      rw [hn] at h
      simp only at h
      obtain ⟨i1, i2, i3⟩ := held_room hf hn (fun k hk => hb k (by omega))
      have hbn := hb n (by omega)
      have hu48 := hbn.u48
      have hn1 := hbn.n1
      by_cases e1 : (bumpR g0 (rN b n) (rN b n + lenOf r b n) (-nOf r b n)).2 = 0
      · rw [if_pos e1] at h
        by_cases e2 : (leastR (bumpR g0 (rN b n) (rN b n + lenOf r b n) (-nOf r b n)).1 (rN b n) (rN b n + lenOf r b n)).2 = 0 ∧ 0 ≤ (leastR (bumpR g0 (rN b n) (rN b n + lenOf r b n) (-nOf r b n)).1 (rN b n) (rN b n + lenOf r b n)).1
        · rw [if_pos e2] at h
          injection h with h
          have hv : Fine g ∧ ∀ u : Nat, u < 48 → vals g u = bumpV g0 (rN b n) (rN b n + lenOf r b n) (-nOf r b n) u := by
            rw [← h]
            unfold bumpR at e1 ⊢
            rw [if_pos (fine_iff.2 i1)] at e1 ⊢
            by_cases e3 : (spn (rN b n) (rN b n + lenOf r b n) && bdd (-nOf r b n)) = true
            · rw [if_pos e3] at e1 ⊢
              unfold tell at e1 ⊢
              by_cases e4 : allTo (bumpV g0 (rN b n) (rN b n + lenOf r b n) (-nOf r b n)) 48 = true
              · rw [if_pos e4]
                exact ⟨foldTo_fine _ 48 (by omega) (by omega) e4, fun u hu => foldTo_val _ e4 u hu⟩
              · rw [if_neg e4] at e1; cases e1
            · rw [if_neg e3] at e1; cases e1
          have hle := (least_ok hv.1 hbn.t0 hbn.l1 hbn.u48).2.1 (by rw [← h]; exact e2.2)
          refine ⟨hv.1, fun u hu => ?_, fun k hk u g1 g2 => ?_⟩
          · rw [hv.2 u hu]
            have := i2 u hu
            unfold bumpV
            split <;> omega
          · by_cases e : k = n
            · subst e
              have h5 := hle u g1 g2
              rw [hv.2 u (by omega)] at h5
              unfold bumpV at h5
              rw [if_pos ⟨g1, g2⟩] at h5
              have := i2 u (by omega)
              omega
            · exact i3 k (by omega) u g1 g2
        · rw [if_neg e2] at h; cases h
      · rw [if_neg e1] at h; cases h

theorem getD_app {l : RunL} {x : Int × Int} {k : Nat} (h : k < l.length) : rAt (l ++ [x]) k = rAt l k ∧ rN (l ++ [x]) k = rN l k := ⟨rAt_app l x k h, rN_app l x k h⟩
/-- what each has done, piece by piece -/
theorem each_at {r : Rq} {f : RunL} : ∀ {n : Nat} {g bs : RunL}, eachSt r f n = some (g, bs) → ∃ G : Nat → RunL, G 0 = f ∧ G n = g ∧ bs.length = n ∧
    ∀ k, k < n → rAt bs k = k ∧ (fst3 r (G k) r.fr k).2.1 = true ∧ rN bs k = (fst3 r (G k) r.fr k).1 ∧ G (k + 1) = (bumpR (G k) (rN bs k) (rN bs k + rAt r.ps k) (-rN r.ps k)).1
  | 0, g, bs, h => by
    simp [eachSt] at h
    exact ⟨fun _ => f, rfl, h.1, by rw [h.2]; rfl, fun k hk => by omega⟩
  | n + 1, g, bs, h => by
    rw [eachSt] at h
    cases hn : eachSt r f n with
    | none => rw [hn] at h; cases h
    | some X =>
      obtain ⟨g0, b0⟩ := X
      rw [hn] at h
      simp only at h
      by_cases e : (fst3 r g0 r.fr n).2.1 = true
      · rw [if_pos e] at h
        injection h with h
        injection h with h1 h2
        obtain ⟨G, i1, i2, i3, i4⟩ := each_at hn
        subst h2
        have hx : rAt (b0 ++ [((n : Int), (fst3 r g0 r.fr n).1)]) n = n ∧ rN (b0 ++ [((n : Int), (fst3 r g0 r.fr n).1)]) n = (fst3 r g0 r.fr n).1 := by
          have e1 := rAt_end b0 ((n : Int), (fst3 r g0 r.fr n).1)
          have e2 := rN_end b0 ((n : Int), (fst3 r g0 r.fr n).1)
          rw [i3] at e1 e2
          exact ⟨e1, e2⟩
        refine ⟨fun k => if k ≤ n then G k else g, by simp [i1], if_neg (by omega), by simp [i3], fun k hk => ?_⟩
        by_cases ek : k = n
        · subst ek
          rw [hx.1, hx.2]
          simp only [Nat.le_refl, if_true, if_neg (show ¬ k + 1 ≤ k by omega), i2]
          exact ⟨trivial, e, trivial, h1.symm⟩
        · have hl := getD_app (l := b0) (x := ((n : Int), (fst3 r g0 r.fr n).1)) (k := k) (by omega)
          rw [hl.1, hl.2]
          simp only [if_pos (show k ≤ n by omega), if_pos (show k + 1 ≤ n by omega)]
          exact i4 k (by omega)
      · rw [if_neg e] at h; cases h
theorem order_at {r : Rq} {f : RunL} : ∀ {n : Nat} {fm : Int} {bs : RunL}, orderSt r f n = some (fm, bs) → ∃ T : Nat → Int, T 0 = r.fr ∧ T n = fm ∧ bs.length = n ∧
    ∀ k, k < n → rAt bs k = k ∧ (fst3 r f (T k) k).2.1 = true ∧ rN bs k = (fst3 r f (T k) k).1 ∧ T (k + 1) = rN bs k + rAt r.ps k
  | 0, fm, bs, h => by
    simp [orderSt] at h
    exact ⟨fun _ => r.fr, rfl, h.1, by rw [h.2]; rfl, fun k hk => by omega⟩
  | n + 1, fm, bs, h => by
    rw [orderSt] at h
    cases hn : orderSt r f n with
    | none => rw [hn] at h; cases h
    | some X =>
      obtain ⟨t0, b0⟩ := X
      rw [hn] at h
      simp only at h
      by_cases e : (fst3 r f t0 n).2.1 = true
      · rw [if_pos e] at h
        injection h with h
        injection h with h1 h2
        obtain ⟨T, i1, i2, i3, i4⟩ := order_at hn
        subst h2
        have hx : rAt (b0 ++ [((n : Int), (fst3 r f t0 n).1)]) n = n ∧ rN (b0 ++ [((n : Int), (fst3 r f t0 n).1)]) n = (fst3 r f t0 n).1 := by
          have e1 := rAt_end b0 ((n : Int), (fst3 r f t0 n).1)
          have e2 := rN_end b0 ((n : Int), (fst3 r f t0 n).1)
          rw [i3] at e1 e2
          exact ⟨e1, e2⟩
        refine ⟨fun k => if k ≤ n then T k else fm, by simp [i1], if_neg (by omega), by simp [i3], fun k hk => ?_⟩
        by_cases ek : k = n
        · subst ek
          rw [hx.1, hx.2]
          simp only [Nat.le_refl, if_true, if_neg (show ¬ k + 1 ≤ k by omega), i2]
          exact ⟨trivial, e, trivial, h1.symm⟩
        · have hl := getD_app (l := b0) (x := ((n : Int), (fst3 r f t0 n).1)) (k := k) (by omega)
          rw [hl.1, hl.2]
          simp only [if_pos (show k ≤ n by omega), if_pos (show k + 1 ≤ n by omega)]
          exact i4 k (by omega)
      · rw [if_neg e] at h; cases h
theorem row_at {r : Rq} {f : RunL} {t : Int} : ∀ {n : Nat} {fm : Int} {bs : RunL}, rowSt r f t n = some (fm, bs) → ∃ T : Nat → Int, T 0 = t ∧ T n = fm ∧ bs.length = n ∧
    ∀ k, k < n → rAt bs k = k ∧ (fst3 r f (T k) k).2.1 = true ∧ rN bs k = T k ∧ (fst3 r f (T k) k).1 = T k ∧ T (k + 1) = rN bs k + rAt r.ps k
  | 0, fm, bs, h => by
    simp [rowSt] at h
    exact ⟨fun _ => t, rfl, h.1, by rw [h.2]; rfl, fun k hk => by omega⟩
  | n + 1, fm, bs, h => by
    rw [rowSt] at h
    cases hn : rowSt r f t n with
    | none => rw [hn] at h; cases h
    | some X =>
      obtain ⟨t0, b0⟩ := X
      rw [hn] at h
      simp only at h
      by_cases e : (fst3 r f t0 n).2.1 = true ∧ (fst3 r f t0 n).1 = t0
      · rw [if_pos e] at h
        injection h with h
        injection h with h1 h2
        obtain ⟨T, i1, i2, i3, i4⟩ := row_at hn
        subst h2
        have hx : rAt (b0 ++ [((n : Int), t0)]) n = n ∧ rN (b0 ++ [((n : Int), t0)]) n = t0 := by
          have e1 := rAt_end b0 ((n : Int), t0)
          have e2 := rN_end b0 ((n : Int), t0)
          rw [i3] at e1 e2
          exact ⟨e1, e2⟩
        refine ⟨fun k => if k ≤ n then T k else fm, by simp [i1], if_neg (by omega), by simp [i3], fun k hk => ?_⟩
        by_cases ek : k = n
        · subst ek
          rw [hx.1, hx.2]
          simp only [Nat.le_refl, if_true, if_neg (show ¬ k + 1 ≤ k by omega), i2]
          exact ⟨trivial, e.1, trivial, e.2, h1.symm⟩
        · have hl := getD_app (l := b0) (x := ((n : Int), t0)) (k := k) (by omega)
          rw [hl.1, hl.2]
          simp only [if_pos (show k ≤ n by omega), if_pos (show k + 1 ≤ n by omega)]
          exact i4 k (by omega)
      · rw [if_neg e] at h; cases h

/-- a bite of piece k, from t on -/
theorem own_piece {r : Rq} {b : RunL} {k : Nat} (hk : k < r.ps.length) (h : rAt b k = k) : isPiece r b k = true ∧ lenOf r b k = rAt r.ps k ∧ nOf r b k = rN r.ps k := by
  refine ⟨?_, by rw [lenOf, h, Int.toNat_natCast], by rw [nOf, h, Int.toNat_natCast]⟩
  rw [isPiece, h]
  simp only [wth, decide_eq_true_eq]
  omega
/-- what is made piece by piece meets the request, and is held -/
theorem made_ok {r : Rq} (hc : chkR false r = 0) {f bs : RunL} (hf : Fine f) (hk2 : r.kind ≠ 2) (hl : bs.length = r.ps.length) (hp : ∀ k, k < bs.length → rAt bs k = k) (hfr : ∀ k, k < bs.length → r.fr ≤ rN bs k ∧ rN bs k + rAt r.ps k ≤ r.un)
    (hfol : ∀ k, k + 1 < bs.length → followsB r bs k (k + 1) = true)
    (hroom : ∀ k g, k < bs.length → heldTo f r bs k = some g → Fine g → ∀ u : Nat, rN bs k ≤ u → (u : Int) < rN bs k + rAt r.ps k → rN r.ps k ≤ vals g u) :
    meets r bs = true ∧ heldB f r bs = true := by
  have hB : ∀ k, k < bs.length → BiteAt r bs k := fun k hk => by
    obtain ⟨g1, g2, g3⟩ := own_piece (r := r) (b := bs) (by omega) (hp k hk)
    refine bite_at hc g1 ?_
    have := hfr k hk
    rw [inTime, g2, decide_eq_true_eq]
    omega
  refine ⟨meets_split.2 ⟨hc, by rw [wantedN, if_neg hk2, hl], fun i hi => ?_⟩, ?_⟩
  · obtain ⟨g1, g2, g3⟩ := own_piece (r := r) (b := bs) (by omega) (hp i hi)
    have h2 : inTime r bs i = true := by
      have := hfr i hi
      rw [inTime, g2, decide_eq_true_eq]
      omega
    rw [biteOk, g1, h2]
    cases i with
    | zero => rfl
    | succ j => rw [Nat.add_sub_cancel, hfol j hi]; simp
  · have : ∀ n, n ≤ bs.length → ∃ g, heldTo f r bs n = some g ∧ Fine g := by
      intro n
      induction n with
      | zero => intro _; exact ⟨f, rfl, hf⟩
      | succ n ih =>
        intro hn
        obtain ⟨g, hg1, hg2⟩ := ih (by omega)
        obtain ⟨g1, g2, g3⟩ := own_piece (r := r) (b := bs) (by omega) (hp n (by omega))
        have hrm := hroom n g (by omega) hg1 hg2
        rw [← g2, ← g3] at hrm
        have hb := hB n (by omega)
        exact ⟨_, held_next hg1 hg2 hb hrm, (bump_ok hg2 hb.t0 hb.l1 hb.u48 ⟨hb.n1, hb.n50⟩ hrm).2.1⟩
    obtain ⟨g, hg, _⟩ := this bs.length (Nat.le_refl _)
    rw [heldB, hg]
    rfl

theorem follows_all {r : Rq} {b : RunL} {k : Nat} (h3 : r.kind ≠ 3) (h4 : r.kind ≠ 4) (h : rAt b k < rAt b (k + 1)) : followsB r b k (k + 1) = true := by
  rw [followsB, if_neg h3, if_neg h4, decide_eq_true h]; rfl
/-- F2, of all -/
theorem each_good {r : Rq} (hc : chkR false r = 0) (hk : r.kind = 1) {f g bs : RunL} (hf : Fine f) (h : eachSt r f r.ps.length = some (g, bs)) : meets r bs = true ∧ heldB f r bs = true := by
  obtain ⟨G, h1, h2, h3, h4⟩ := each_at h
  have hs := spn_at hc
  have hG : ∀ k, k ≤ r.ps.length → heldTo f r bs k = some (G k) ∧ Fine (G k) := by
    intro k
    induction k with
    | zero => intro _; rw [h1]; exact ⟨rfl, hf⟩
    | succ k ih =>
      intro hkn
      obtain ⟨i1, i2⟩ := ih (by omega)
      obtain ⟨e1, e2, e3, e4⟩ := h4 k (by omega)
      obtain ⟨_, F, t, q1, q2, q3, q4, _⟩ := fst_hit hc (by omega) e2
      obtain ⟨g1, g2, g3⟩ := own_piece (r := r) (b := bs) (by omega) e1
      have hb : BiteAt r bs k := bite_at hc g1 (by
        have := q4.1
        rw [inTime, g2, decide_eq_true_eq, e3, q2]
        omega)
      have hrm : ∀ u : Nat, rN bs k ≤ u → (u : Int) < rN bs k + lenOf r bs k → nOf r bs k ≤ vals (G k) u := fun u k1 k2 => by
        rw [g3]
        rw [e3, q2] at k1 k2
        rw [g2] at k2
        exact q4.2 u (by omega) k2
      have hn := held_next i1 i2 hb hrm
      have hfi := (bump_ok i2 hb.t0 hb.l1 hb.u48 ⟨hb.n1, hb.n50⟩ hrm).2.1
      rw [g2, g3] at hn hfi
      rw [e4]
      exact ⟨hn, hfi⟩
  refine made_ok hc hf (by omega) h3 (fun k hkl => (h4 k (by omega)).1) (fun k hkl => ?_) (fun k hkl => ?_) (fun k g' hkl hg hgf => ?_)
  · obtain ⟨e1, e2, e3, e4⟩ := h4 k (by omega)
    obtain ⟨_, F, t, q1, q2, q3, q4, _⟩ := fst_hit hc (by omega) e2
    have := q4.1
    rw [e3, q2]
    omega
  · refine follows_all (by omega) (by omega) ?_
    rw [(h4 k (by omega)).1, (h4 (k + 1) (by omega)).1]
    omega
  · rw [(hG k (by omega)).1] at hg
    injection hg with hg
    subst hg
    obtain ⟨e1, e2, e3, e4⟩ := h4 k (by omega)
    obtain ⟨_, F, t, q1, q2, q3, q4, _⟩ := fst_hit hc (by omega) e2
    intro u k1 k2
    rw [e3, q2] at k1 k2
    exact q4.2 u (by omega) k2
/-- what lies one behind the other, with room in f, is held -/
theorem line_good {r : Rq} (hc : chkR false r = 0) (hk2 : r.kind ≠ 2) {f bs : RunL} (hf : Fine f) (hl : bs.length = r.ps.length) (hp : ∀ k, k < bs.length → rAt bs k = k) (hfr : ∀ k, k < bs.length → r.fr ≤ rN bs k ∧ rN bs k + rAt r.ps k ≤ r.un)
    (hfol : ∀ k, k + 1 < bs.length → followsB r bs k (k + 1) = true) (hbeh : ∀ k, k + 1 < bs.length → rN bs k + rAt r.ps k ≤ rN bs (k + 1))
    (hroom : ∀ k, k < bs.length → ∀ u : Nat, rN bs k ≤ u → (u : Int) < rN bs k + rAt r.ps k → rN r.ps k ≤ vals f u) : meets r bs = true ∧ heldB f r bs = true := by
  have hs := spn_at hc
  have hpc : ∀ k, k < bs.length → isPiece r bs k = true ∧ lenOf r bs k = rAt r.ps k ∧ nOf r bs k = rN r.ps k := fun k hk => own_piece (by omega) (hp k hk)
  have hB : ∀ k, k < bs.length → BiteAt r bs k := fun k hk => by
    obtain ⟨g1, g2, g3⟩ := hpc k hk
    refine bite_at hc g1 ?_
    have := hfr k hk
    rw [inTime, g2, decide_eq_true_eq]
    omega
  have hold : ∀ k, k ≤ bs.length → ∀ g, heldTo f r bs k = some g → Fine g → ∀ u : Nat, u < 48 → (∀ j, j < k → rN bs j + rAt r.ps j ≤ u) → vals g u = vals f u := by
    intro k
    induction k with
    | zero =>
      intro _ g hg _ u _ _
      simp [heldTo] at hg
      rw [hg]
    | succ k ih =>
      intro hkn g hg hgf u hu hj
      rw [heldTo] at hg
      cases hn : heldTo f r bs k with
      | none => rw [hn] at hg; cases hg
      | some g0 =>
        have hr0 := held_room hf hn (fun j hjk => hB j (by omega))
        have hv0 := ih (by omega) g0 hn hr0.1 u hu (fun j hjk => hj j (by omega))
        have hroomk : ∀ v : Nat, rN bs k ≤ v → (v : Int) < rN bs k + lenOf r bs k → nOf r bs k ≤ vals g0 v := fun v v1 v2 => by
          obtain ⟨g1, g2, g3⟩ := hpc k (by omega)
          have hu48 := (hB k (by omega)).u48
          have : vals g0 v = vals f v := ih (by omega) g0 hn hr0.1 v (by omega) (fun j hjk => by
            have : ∀ m, j < m → m ≤ k → rN bs j + rAt r.ps j ≤ rN bs m := by
              intro m
              induction m with
              | zero => intro q; omega
              | succ m ihm =>
                intro q1 q2
                by_cases e : j = m
                · subst e; exact hbeh j (by omega)
                · have a1 := ihm (by omega) (by omega)
                  have a2 := hbeh m (by omega)
                  have a3 := piece_at hc (k := m) (by omega)
                  omega
            have := this k hjk (Nat.le_refl _)
            omega)
          rw [this, g3]
          rw [g2] at v2
          exact hroom k (by omega) v v1 v2
        have hnx := held_next hn hr0.1 (hB k (by omega)) hroomk
        rw [heldTo, hn] at hnx
        rw [hn] at hg
        rw [hg] at hnx
        injection hnx with hnx
        have hb := hB k (by omega)
        have hbv := (bump_ok hr0.1 hb.t0 hb.l1 hb.u48 ⟨hb.n1, hb.n50⟩ hroomk).2.2 u hu
        rw [hnx, hbv, if_neg, hv0]
        have h9 := hj k (by omega)
        obtain ⟨g1, g2, g3⟩ := hpc k (by omega)
        rw [g2]
        omega
  refine made_ok hc hf hk2 hl hp hfr hfol (fun k g hk hg hgf u k1 k2 => ?_)
  have hu48 := (hB k hk).u48
  rw [(hpc k hk).2.1] at hu48
  rw [hold k (by omega) g hg hgf u (by omega) (fun j hjk => ?_)]
  · exact hroom k hk u k1 k2
  · have : ∀ m, j < m → m ≤ k → rN bs j + rAt r.ps j ≤ rN bs m := by
      intro m
      induction m with
      | zero => intro q; omega
      | succ m ihm =>
        intro q1 q2
        by_cases e : j = m
        · subst e; exact hbeh j (by omega)
        · have a1 := ihm (by omega) (by omega)
          have a2 := hbeh m (by omega)
          have a3 := piece_at hc (k := m) (by omega)
          omega
    have := this k hjk (Nat.le_refl _)
    omega
end Go.Proofs.Ytcgchicdmgllaad
