/- F2, in plain words: what is found meets the request and there is room for it; of Any, Order and Tight, where there is a place one is found, and none that is over sooner. -/
import Derived.Test.YtcgchicdmgllaadPlaceN
import Derived.Test.YtcgchicdmgllaadPlaceG
namespace Go.Proofs.Ytcgchicdmgllaad

theorem order_good {r : Rq} (hc : chkR false r = 0) (hk : r.kind = 3) {f bs : RunL} {fm : Int} (hf : Fine f) (h : orderSt r f r.ps.length = some (fm, bs)) : meets r bs = true ∧ heldB f r bs = true := by
  obtain ⟨T, h1, h2, h3, h4⟩ := order_at h
  have hs := spn_at hc
  have hit : ∀ k, k < bs.length → T k ≤ rN bs k ∧ rN bs k + rAt r.ps k ≤ r.un ∧ ∀ u : Nat, rN bs k ≤ u → (u : Int) < rN bs k + rAt r.ps k → rN r.ps k ≤ vals f u := fun k hkl => by
    obtain ⟨e1, e2, e3, e4⟩ := h4 k (by omega)
    obtain ⟨_, F, t, q1, q2, q3, q4, _⟩ := fst_hit hc (by omega) e2
    rw [e3, q2]
    exact ⟨by omega, q4.1, fun u k1 k2 => q4.2 u (by omega) k2⟩
  have hT : ∀ k, k ≤ bs.length → r.fr ≤ T k := by
    intro k
    induction k with
    | zero => intro _; rw [h1]; exact Int.le_refl _
    | succ k ih =>
      intro hkl
      have a1 := ih (by omega)
      have a2 := hit k (by omega)
      have a3 := (h4 k (by omega)).2.2.2
      have a4 := piece_at hc (k := k) (by omega)
      omega
  have hbeh : ∀ k, k + 1 < bs.length → rN bs k + rAt r.ps k ≤ rN bs (k + 1) := fun k hkl => by
    have a1 := (h4 k (by omega)).2.2.2
    have a2 := (hit (k + 1) hkl).1
    omega
  refine line_good hc (by omega) hf h3 (fun k hkl => (h4 k (by omega)).1) (fun k hkl => ⟨by have := hT k (by omega); have := (hit k hkl).1; omega, (hit k hkl).2.1⟩) (fun k hkl => ?_) hbeh (fun k hkl => (hit k hkl).2.2)
  have e1 := (h4 k (by omega)).1
  have e2 := (h4 (k + 1) (by omega)).1
  rw [followsB, if_pos hk, decide_eq_true (show rAt bs k < rAt bs (k + 1) by omega), Bool.true_and, decide_eq_true_eq, overAt, (own_piece (r := r) (by omega) e1).2.1]
  exact hbeh k hkl
theorem row_good {r : Rq} (hc : chkR false r = 0) (hk : r.kind = 4) {f bs : RunL} {t fm : Int} (ht : r.fr ≤ t) (hf : Fine f) (h : rowSt r f t r.ps.length = some (fm, bs)) : meets r bs = true ∧ heldB f r bs = true := by
  obtain ⟨T, h1, h2, h3, h4⟩ := row_at h
  have hs := spn_at hc
  have hit : ∀ k, k < bs.length → rN bs k + rAt r.ps k ≤ r.un ∧ ∀ u : Nat, rN bs k ≤ u → (u : Int) < rN bs k + rAt r.ps k → rN r.ps k ≤ vals f u := fun k hkl => by
    obtain ⟨e1, e2, e3, e5, e4⟩ := h4 k (by omega)
    obtain ⟨_, F, t, q1, q2, q3, q4, _⟩ := fst_hit hc (by omega) e2
    rw [e3, ← e5, q2]
    exact ⟨q4.1, fun u k1 k2 => q4.2 u (by omega) k2⟩
  have hT : ∀ k, k ≤ bs.length → r.fr ≤ T k := by
    intro k
    induction k with
    | zero => intro _; rw [h1]; exact ht
    | succ k ih =>
      intro hkl
      have a1 := ih (by omega)
      have a3 := (h4 k (by omega))
      have a4 := piece_at hc (k := k) (by omega)
      omega
  have hbeh : ∀ k, k + 1 < bs.length → rN bs (k + 1) = rN bs k + rAt r.ps k := fun k hkl => by
    have a1 := (h4 k (by omega)).2.2.2.2
    have a2 := (h4 (k + 1) (by omega)).2.2.1
    omega
  refine line_good hc (by omega) hf h3 (fun k hkl => (h4 k (by omega)).1) (fun k hkl => ⟨by have := hT k (by omega); have := (h4 k (by omega)).2.2.1; omega, (hit k hkl).1⟩) (fun k hkl => ?_) (fun k hkl => by have := hbeh k hkl; omega) (fun k hkl => (hit k hkl).2)
  have e1 := (h4 k (by omega)).1
  have e2 := (h4 (k + 1) (by omega)).1
  rw [followsB, if_neg (by omega), if_pos hk, decide_eq_true (show rAt bs k < rAt bs (k + 1) by omega), Bool.true_and, decide_eq_true_eq, overAt, (own_piece (r := r) (by omega) e1).2.1]
  exact hbeh k hkl
theorem one_good {r : Rq} (hc : chkR false r = 0) (hk : r.kind = 2) {f : RunL} {k : Nat} (hkl : k < r.ps.length) (h : (fst3 r f r.fr k).2.1 = true) : meets r [((k : Int), (fst3 r f r.fr k).1)] = true ∧ heldB f r [((k : Int), (fst3 r f r.fr k).1)] = true := by
  obtain ⟨hf, F, t, q1, q2, q3, q4, _⟩ := fst_hit hc hkl h
  rw [q2]
  have a1 : rAt [((k : Int), (t : Int))] 0 = k := rfl
  have a2 : rN [((k : Int), (t : Int))] 0 = t := rfl
  have hs := spn_at hc
  have g1 : isPiece r [((k : Int), (t : Int))] 0 = true := by rw [isPiece, a1]; simp only [wth, decide_eq_true_eq]; omega
  have g2 : lenOf r [((k : Int), (t : Int))] 0 = rAt r.ps k := by rw [lenOf, a1, Int.toNat_natCast]
  have g3 : nOf r [((k : Int), (t : Int))] 0 = rN r.ps k := by rw [nOf, a1, Int.toNat_natCast]
  have g4 : inTime r [((k : Int), (t : Int))] 0 = true := by
    have := q4.1
    rw [inTime, g2, a2, decide_eq_true_eq]
    omega
  refine ⟨meets_split.2 ⟨hc, by rw [wantedN, if_pos hk]; rfl, fun i hi => ?_⟩, ?_⟩
  · obtain rfl : i = 0 := by simp at hi; omega
    rw [biteOk, g1, g4]; rfl
  · have := held_next (f := f) (r := r) (b := [((k : Int), (t : Int))]) (k := 0) rfl hf (bite_at hc g1 g4) (fun u k1 k2 => by
      rw [g3]
      rw [a2] at k1 k2
      rw [g2] at k2
      exact q4.2 u (by omega) k2)
    show (heldTo f r [((k : Int), (t : Int))] 1).isSome = true
    rw [this]; rfl
/-- what is found meets the request, and there is room for all of it -/
theorem find_good {r : Rq} {f b : RunL} (he : placeErr f r = 0) (h : findA r f = (b, true)) : meets r b = true ∧ heldB f r b = true := by
  unfold placeErr at he
  by_cases hf : fine f = true
  · rw [if_pos hf] at he
    have hF := fine_of hf
    have hk := of_decide_eq_true (chkR_zero.1 he).1
    unfold findA at h
    by_cases k1 : r.kind = 1
    · rw [if_pos k1] at h
      cases hE : eachSt r f r.ps.length with
      | none => rw [hE] at h; cases h
      | some X =>
        rw [hE] at h
        obtain ⟨g, bs⟩ := X
        injection h with h _
        subst h
        exact each_good he k1 hF hE
    rw [if_neg k1] at h
    by_cases k2 : r.kind = 2
    · rw [if_pos k2, oneA] at h
      cases hE : findFrom (fun k => (fst3 r f r.fr k).2.1) 0 r.ps.length with
      | none => rw [hE] at h; cases h
      | some k =>
        rw [hE] at h
        obtain ⟨g1, g2, g3, _⟩ := findFrom_some hE
        injection h with h _
        subst h
        exact one_good he k2 (by omega) g3
    rw [if_neg k2] at h
    by_cases k3 : r.kind = 3
    · rw [if_pos k3] at h
      cases hE : orderSt r f r.ps.length with
      | none => rw [hE] at h; cases h
      | some X =>
        rw [hE] at h
        obtain ⟨g, bs⟩ := X
        injection h with h _
        subst h
        exact order_good he k3 hF hE
    · rw [if_neg k3, tightA] at h
      have hs := spn_at he
      cases hE : findFrom (fun t => (rowSt r f t r.ps.length).isSome) r.fr.toNat (r.un.toNat - r.fr.toNat) with
      | none => rw [hE] at h; cases h
      | some t =>
        rw [hE] at h
        obtain ⟨g1, g2, g3, _⟩ := findFrom_some hE
        cases hR : rowSt r f t r.ps.length with
        | none => rw [hR] at g3; cases g3
        | some X =>
          obtain ⟨g, bs⟩ := X
          simp only [hR] at h
          injection h with h _
          subst h
          exact row_good he (by omega) (by omega) hF hR
  · rw [if_neg hf] at he; cases he

/-- all pieces in their order -/
theorem pieces_are {r : Rq} {b : RunL} (hk : r.kind ≠ 2) (h : meets r b = true) : b.length = r.ps.length ∧ ∀ k, k < b.length → rAt b k = k := by
  obtain ⟨h1, h2, h3⟩ := meets_split.1 h
  rw [wantedN, if_neg hk] at h2
  have hl : b.length = r.ps.length := by omega
  have up : ∀ k, k + 1 < b.length → rAt b k < rAt b (k + 1) := fun k hkl => by
    obtain ⟨_, _, g⟩ := biteOk_at (h3 (k + 1) hkl)
    rcases g with g | g
    · omega
    · rw [Nat.add_sub_cancel, followsB, Bool.and_eq_true, decide_eq_true_eq] at g
      exact g.1
  have lo : ∀ k, k < b.length → (k : Int) ≤ rAt b k := by
    intro k
    induction k with
    | zero => intro hkl; exact (isPiece_at (biteOk_at (h3 0 hkl)).1).1
    | succ k ih => intro hkl; have := ih (by omega); have := up k hkl; omega
  have hi : ∀ m k, k + m < b.length → rAt b k + m ≤ rAt b (k + m) := by
    intro m
    induction m with
    | zero => intro k _; simp
    | succ m ih => intro k hkl; have := ih k (by omega); have := up (k + m) (by omega); rw [show k + (m + 1) = k + m + 1 from by omega]; omega
  refine ⟨hl, fun k hkl => ?_⟩
  have a1 := lo k hkl
  have a2 := hi (b.length - 1 - k) k (by omega)
  have a3 := (isPiece_at (biteOk_at (h3 (k + (b.length - 1 - k)) (by omega))).1).2
  omega
/-- what a met and held request says of the room -/
theorem met_room {r : Rq} {f b : RunL} (hf : Fine f) (hm : meets r b = true) (hh : heldB f r b = true) : ∀ k, k < b.length → BiteAt r b k ∧ r.fr ≤ rN b k ∧ rN b k + lenOf r b k ≤ r.un ∧ ∀ u : Nat, rN b k ≤ u → (u : Int) < rN b k + lenOf r b k → nOf r b k ≤ vals f u := by
  obtain ⟨h1, h2, h3⟩ := meets_split.1 hm
  have hB : ∀ k, k < b.length → BiteAt r b k := fun k hk => by
    obtain ⟨g1, g2, _⟩ := biteOk_at (h3 k hk)
    exact bite_at h1 g1 g2
  rw [heldB] at hh
  obtain ⟨g, hg⟩ := Option.isSome_iff_exists.1 hh
  have hr := (held_room hf hg hB).2.2
  intro k hk
  have := inTime_at (biteOk_at (h3 k hk)).2.1
  exact ⟨hB k hk, by omega, by omega, hr k hk⟩
theorem overMax_mono {r : Rq} {x b : RunL} : ∀ {n : Nat}, (∀ k, k < n → overAt r x k ≤ overAt r b k) → overMax r x n ≤ overMax r b n
  | 0, _ => Int.le_refl _
  | n + 1, h => by
    rw [overMax, overMax]
    have h1 := overMax_mono (n := n) (fun k hk => h k (by omega))
    have h2 := h n (by omega)
    omega

theorem order_sure {r : Rq} (hc : chkR false r = 0) (hk : r.kind = 3) {f b : RunL} (hf : Fine f) (hm : meets r b = true) (hh : heldB f r b = true) : ∃ fm bs, orderSt r f r.ps.length = some (fm, bs) ∧ ∀ j, j < r.ps.length → rN bs j ≤ rN b j := by
  obtain ⟨hl, hp⟩ := pieces_are (by omega) hm
  have hr := met_room hf hm hh
  have h3 := (meets_split.1 hm).2.2
  have hs := spn_at hc
  have : ∀ k, k ≤ r.ps.length → ∃ fm bs, orderSt r f k = some (fm, bs) ∧ bs.length = k ∧ 0 ≤ fm ∧ (k < r.ps.length → fm ≤ rN b k) ∧ ∀ j, j < k → rN bs j ≤ rN b j := by
    intro k
    induction k with
    | zero => intro _; exact ⟨r.fr, [], rfl, rfl, hs.1, fun hkl => (hr 0 (by omega)).2.1, fun j hj => by omega⟩
    | succ k ih =>
      intro hkl
      obtain ⟨fm, bs, i1, i2, i3, i4, i5⟩ := ih (by omega)
      obtain ⟨b1, b2, b3, b4⟩ := hr k (by omega)
      obtain ⟨g1, g2, g3⟩ := own_piece (r := r) (b := b) (by omega) (hp k (by omega))
      rw [g2] at b3 b4
      rw [g3] at b4
      have ht0 := b1.t0
      have hR : Roomy r f k (rN b k).toNat := ⟨by omega, fun u k1 k2 => b4 u (by omega) (by omega)⟩
      obtain ⟨a1, a2⟩ := fst_any hc (by omega) hf i3 (by have := i4 (by omega); omega) hR
      have a3 := fst3_bd r f fm k
      have hpk := piece_at hc (k := k) (by omega)
      refine ⟨(fst3 r f fm k).1 + rAt r.ps k, bs ++ [((k : Int), (fst3 r f fm k).1)], by rw [orderSt, i1]; simp only [a1, if_true], by simp [i2], by omega, fun hk2 => ?_, fun j hj => ?_⟩
      · obtain ⟨_, _, g⟩ := biteOk_at (h3 (k + 1) (by omega))
        rcases g with g | g
        · omega
        · rw [Nat.add_sub_cancel, followsB, if_pos hk, Bool.and_eq_true, decide_eq_true_eq, decide_eq_true_eq, overAt, g2] at g
          omega
      · by_cases e : j = k
        · subst e
          have := rN_end bs ((j : Int), (fst3 r f fm j).1)
          rw [i2] at this
          rw [this]
          show (fst3 r f fm j).1 ≤ _
          omega
        · rw [rN_app _ _ _ (by omega)]
          exact i5 j (by omega)
  obtain ⟨fm, bs, i1, _, _, _, i5⟩ := this r.ps.length (Nat.le_refl _)
  exact ⟨fm, bs, i1, i5⟩
theorem row_sure {r : Rq} (hc : chkR false r = 0) (hk : r.kind = 4) {f b : RunL} (hf : Fine f) (hm : meets r b = true) (hh : heldB f r b = true) : (rowSt r f (rN b 0) r.ps.length).isSome = true := by
  obtain ⟨hl, hp⟩ := pieces_are (by omega) hm
  have hr := met_room hf hm hh
  have h3 := (meets_split.1 hm).2.2
  have : ∀ k, k ≤ r.ps.length → ∃ fm bs, rowSt r f (rN b 0) k = some (fm, bs) ∧ (k < r.ps.length → fm = rN b k) := by
    intro k
    induction k with
    | zero => intro _; exact ⟨rN b 0, [], rfl, fun _ => rfl⟩
    | succ k ih =>
      intro hkl
      obtain ⟨fm, bs, i1, i4⟩ := ih (by omega)
      have i4 := i4 (by omega)
      obtain ⟨b1, b2, b3, b4⟩ := hr k (by omega)
      obtain ⟨g1, g2, g3⟩ := own_piece (r := r) (b := b) (by omega) (hp k (by omega))
      rw [g2] at b3 b4
      rw [g3] at b4
      have ht0 := b1.t0
      have hR : Roomy r f k (rN b k).toNat := ⟨by omega, fun u k1 k2 => b4 u (by omega) (by omega)⟩
      obtain ⟨a1, a2⟩ := fst_any hc (by omega) hf (fm := fm) (by omega) (by omega) hR
      obtain ⟨_, F, t, q1, q2, q3, _, _⟩ := fst_hit hc (by omega) a1
      have a3 : (fst3 r f fm k).1 = fm := by omega
      refine ⟨fm + rAt r.ps k, bs ++ [((k : Int), fm)], by rw [rowSt, i1]; simp only [a1, a3, and_self, if_true], fun hk2 => ?_⟩
      obtain ⟨_, _, g⟩ := biteOk_at (h3 (k + 1) (by omega))
      rcases g with g | g
      · omega
      · rw [Nat.add_sub_cancel, followsB, if_neg (by omega), if_pos hk, Bool.and_eq_true, decide_eq_true_eq, decide_eq_true_eq, overAt, g2] at g
        omega
  obtain ⟨fm, bs, i1, _⟩ := this r.ps.length (Nat.le_refl _)
  rw [i1]; rfl
/-- F2, the other way -/
theorem find_sure {r : Rq} {f b : RunL} (he : placeErr f r = 0) (hk : r.kind ≠ 1) (hm : meets r b = true) (hh : heldB f r b = true) : ∃ x, findA r f = (x, true) ∧
    (r.kind = 2 → b.length = 1 ∧ x.length = 1 ∧ (rAt x 0 < rAt b 0 ∨ rAt x 0 = rAt b 0 ∧ rN x 0 ≤ rN b 0)) ∧ (r.kind ≠ 2 → x.length = b.length ∧ 0 < x.length ∧ overMax r x x.length ≤ overMax r b b.length) := by
  unfold placeErr at he
  by_cases hfi : fine f = true
  · rw [if_pos hfi] at he
    have hf := fine_of hfi
    have hkr := of_decide_eq_true (chkR_zero.1 he).1
    have hwp := wantedN_pos he
    have hs := spn_at he
    obtain ⟨h1, h2, h3⟩ := meets_split.1 hm
    have hr := met_room hf hm hh
    unfold findA
    rw [if_neg hk]
    by_cases k2 : r.kind = 2
    · rw [if_pos k2]
      rw [wantedN, if_pos k2] at h2
      have hb1 : b.length = 1 := by omega
      obtain ⟨b1, b2, b3, b4⟩ := hr 0 (by omega)
      have hip := isPiece_at (biteOk_at (h3 0 (by omega))).1
      have ht0 := b1.t0
      have hR : Roomy r f (rAt b 0).toNat (rN b 0).toNat := ⟨by have : lenOf r b 0 = rAt r.ps (rAt b 0).toNat := rfl; omega, fun u k1 k3 => by
        have e1 : lenOf r b 0 = rAt r.ps (rAt b 0).toNat := rfl
        exact b4 u (by omega) (by omega)⟩
      obtain ⟨a1, a2⟩ := fst_any he (k := (rAt b 0).toNat) (by omega) hf hs.1 (by omega) hR
      unfold oneA
      cases hE : findFrom (fun k => (fst3 r f r.fr k).2.1) 0 r.ps.length with
      | none =>
        have := findFrom_none hE (rAt b 0).toNat (by omega) (by omega)
        rw [a1] at this
        cases this
      | some k =>
        obtain ⟨q1, q2, q3, q4⟩ := findFrom_some hE
        refine ⟨_, rfl, fun _ => ⟨hb1, rfl, ?_⟩, fun q => absurd k2 q⟩
        show (k : Int) < rAt b 0 ∨ (k : Int) = rAt b 0 ∧ (fst3 r f r.fr k).1 ≤ rN b 0
        by_cases e : k < (rAt b 0).toNat
        · exact Or.inl (by omega)
        · by_cases e2 : k = (rAt b 0).toNat
          · refine Or.inr ⟨by omega, ?_⟩
            rw [e2]; omega
          · have := q4 (rAt b 0).toNat (by omega) (by omega)
            rw [a1] at this
            cases this
    · obtain ⟨hl, hp⟩ := pieces_are k2 hm
      have hb0 : 0 < b.length := by rw [wantedN, if_neg k2] at hwp; omega
      have cmp : ∀ (x : RunL), x.length = r.ps.length → (∀ k, k < x.length → rAt x k = k ∧ rN x k ≤ rN b k) → overMax r x x.length ≤ overMax r b b.length := fun x hxl hx => by
        rw [hxl, hl]
        refine overMax_mono fun k hkn => ?_
        obtain ⟨x1, x2⟩ := hx k (by omega)
        rw [overAt, overAt, (own_piece (r := r) hkn x1).2.1, (own_piece (r := r) hkn (hp k (by omega))).2.1]
        omega
      by_cases k3 : r.kind = 3
      · rw [if_neg k2, if_pos k3]
        obtain ⟨fm, bs, i1, i2⟩ := order_sure he k3 hf hm hh
        obtain ⟨T, _, _, t3, t4⟩ := order_at i1
        rw [i1]
        exact ⟨bs, rfl, fun q => absurd q k2, fun _ => ⟨by omega, by omega, cmp bs t3 fun k hkn => ⟨(t4 k (by omega)).1, i2 k (by omega)⟩⟩⟩
      · rw [if_neg k2, if_neg k3]
        have k4 : r.kind = 4 := by omega
        have hrow := row_sure he k4 hf hm hh
        obtain ⟨b1, b2, b3, b4⟩ := hr 0 hb0
        have hl1 := b1.l1
        have ht0 := b1.t0
        unfold tightA
        cases hE : findFrom (fun t => (rowSt r f t r.ps.length).isSome) r.fr.toNat (r.un.toNat - r.fr.toNat) with
        | none =>
          have := findFrom_none hE (rN b 0).toNat (by omega) (by omega)
          rw [show (((rN b 0).toNat : Nat) : Int) = rN b 0 from by omega, hrow] at this
          cases this
        | some t =>
          obtain ⟨q1, q2, q3, q4⟩ := findFrom_some hE
          have hle : (t : Int) ≤ rN b 0 := by
            by_cases e : t ≤ (rN b 0).toNat
            · omega
            · have := q4 (rN b 0).toNat (by omega) (by omega)
              rw [show (((rN b 0).toNat : Nat) : Int) = rN b 0 from by omega, hrow] at this
              cases this
          cases hR : rowSt r f t r.ps.length with
          | none => rw [hR] at q3; cases q3
          | some X =>
            obtain ⟨fm, bs⟩ := X
            obtain ⟨T, t1, _, t3, t4⟩ := row_at hR
            simp only [hR]
            have hTb : ∀ k, k < r.ps.length → T k ≤ rN b k := by
              intro k
              induction k with
              | zero => intro _; rw [t1]; exact hle
              | succ k ih =>
                intro hkn
                have a1 := ih (by omega)
                have a2 := t4 k (by omega)
                obtain ⟨_, _, g⟩ := biteOk_at (h3 (k + 1) (by omega))
                rcases g with g | g
                · omega
                · rw [Nat.add_sub_cancel, followsB, if_neg (by omega), if_pos k4, Bool.and_eq_true, decide_eq_true_eq, decide_eq_true_eq, overAt, (own_piece (r := r) (by omega) (hp k (by omega))).2.1] at g
                  omega
            exact ⟨bs, rfl, fun q => absurd q k2, fun _ => ⟨by omega, by omega, cmp bs t3 fun k hkn => ⟨(t4 k (by omega)).1, by have := hTb k (by omega); have := (t4 k (by omega)).2.2.1; omega⟩⟩⟩
  · rw [if_neg hfi] at he; cases he
end Go.Proofs.Ytcgchicdmgllaad
