/- Several texts in one: CutS, CutV, CutW, CutX, LogE, LogF, LogG, LogH, LogI, LogJ, LogK. -/
import Derived.Test.YtckpdfkobdgjeaaGreatDoorKAll6
import Derived.Test.YtckpdfkobdgjeaaGreatDoorKAll5
import Derived.WalkLawsBesides
import Derived.BigQuiet
import Derived.Lib.AppendZeros
import Derived.Defers
import Derived.Recover
namespace Go.Proofs.YtckpdfkobdgjeaaGreatDoor
def Up (b : BL) : Prop := b.Pairwise (fun x y => x.id < y.id)
theorem posI_spec (b : BL) (id : Int) : ∀ n, (∀ i, posI b id n ≤ i → i < n → ¬ (bk b i).id < id) ∧ (posI b id n = 0 ∨ (bk b (posI b id n - 1)).id < id)
  | 0 => ⟨fun i _ h => by omega, Or.inl rfl⟩
  | n + 1 => by
    obtain ⟨h1, h2⟩ := posI_spec b id n
    rw [posI]
    split
    · rename_i h
      exact ⟨fun i hi hn => by omega, Or.inr h⟩
    · rename_i h
      refine ⟨fun i hi hn => ?_, h2⟩
      by_cases e : i = n
      · subst e; exact h
      · exact h1 i hi (by omega)
theorem putB_perm (b : BL) (x : Bk) : (putB b x).Perm (x :: b) := by
  unfold putB insB
  have h := List.perm_middle (a := x) (l₁ := b.take (posI b x.id b.length)) (l₂ := b.drop (posI b x.id b.length))
  rw [List.take_append_drop] at h
  exact h
theorem up_put {b : BL} {x : Bk} (h : Up b) (hx : ∀ y ∈ b, y.id ≠ x.id) : Up (putB b x) := by
  obtain ⟨h1, h2⟩ := posI_spec b x.id b.length
  have hp := posI_le b x.id b.length
  unfold putB insB
  obtain ⟨p, hpe⟩ : ∃ p, posI b x.id b.length = p := ⟨_, rfl⟩
  rw [hpe] at h1 h2 hp ⊢
  have hP := List.pairwise_iff_getElem.1 h
  have hlow : ∀ y ∈ b.take p, y.id < x.id := by
    intro y hy
    obtain ⟨i, hi, rfl⟩ := List.getElem_of_mem hy
    have hi2 : i < p ∧ i < b.length := by simp at hi; exact ⟨by omega, by omega⟩
    rw [List.getElem_take]
    rcases h2 with e | h2
    · omega
    · rw [bk_is (show p - 1 < b.length by omega)] at h2
      by_cases e : i = p - 1
      · subst e; exact h2
      · have := hP i (p - 1) hi2.2 (by omega) (by omega)
        omega
  have hhigh : ∀ y ∈ b.drop p, x.id < y.id := by
    intro y hy
    obtain ⟨i, hi, rfl⟩ := List.getElem_of_mem hy
    have hi2 : p + i < b.length := by simp at hi; omega
    rw [List.getElem_drop]
    have h3 := h1 (p + i) (by omega) hi2
    rw [bk_is hi2] at h3
    have h4 := hx b[p + i] (List.getElem_mem hi2)
    omega
  unfold Up
  rw [List.pairwise_append, List.pairwise_cons]
  refine ⟨h.sublist (List.take_sublist _ _), ⟨hhigh, h.sublist (List.drop_sublist _ _)⟩, fun y hy z hz => ?_⟩
  rcases List.mem_cons.1 hz with e | hz
  · rw [e]; exact hlow y hy
  · have := hlow y hy
    have := hhigh z hz
    omega
theorem less_perm {b : BL} {i : Nat} (h : i < b.length) : (bk b i :: lessB b i).Perm b := by
  have h1 := List.perm_middle (a := bk b i) (l₁ := b.take i) (l₂ := b.drop (i + 1))
  rw [bk_is h, List.getElem_cons_drop h, List.take_append_drop] at h1
  rw [bk_is h]
  exact h1.symm
theorem Up.nodup {b : BL} (h : Up b) : (b.map Bk.id).Nodup := by
  unfold List.Nodup
  rw [List.pairwise_map]
  exact h.imp fun hlt => by omega
theorem Lit.all {c : Int} {l : QL} {b0 b aw : BL} (h : Lit c l b0 b aw) (hc : Clean l b0) (h0 : 0 ≤ c) (hu : Up b0) : (b ++ aw).Perm b0 ∧ Up aw := by
  induction h with
  | start => exact ⟨by simp, List.Pairwise.nil⟩
  | @step b aw t q hl hf ih =>
    obtain ⟨h1, h2, h3, h4⟩ := hl.clean hc h0
    obtain ⟨i1, i2⟩ := ih
    rcases hf with ⟨e, _⟩ | ⟨_, t0, t1, k, hk, hqk, ho, _, _⟩
    · cases e
    · have hq : q = k := by omega
      subst hq
      have hi := lastI_lt l b t q b.length (over_some h1 hk (by omega) t1 ho)
      refine ⟨?_, up_put i2 fun y hy e => ?_⟩
      · refine List.Perm.trans ?_ i1
        refine (List.Perm.append_left _ (putB_perm _ _)).trans ?_
        refine List.perm_middle.trans ?_
        exact (less_perm hi).append_right aw
      · have hn := (i1.map Bk.id).nodup_iff.2 hu.nodup
        rw [List.map_append, List.nodup_append] at hn
        exact hn.2.2 _ (List.mem_map_of_mem (bk_mem hi)) _ (List.mem_map_of_mem hy) e.symm
theorem heldTo_from (f : RunL) (r : Rq) (c : Int) (b : RunL) : ∀ k, heldTo f (r.from c) b k = heldTo f r b k
  | 0 => rfl
  | k + 1 => by rw [heldTo, heldTo, heldTo_from f r c b k]; rfl
theorem heldB_from (f : RunL) (r : Rq) (c : Int) (b : RunL) : heldB f (r.from c) b = heldB f r b := by unfold heldB; rw [heldTo_from]
theorem overMax_from (r : Rq) (c : Int) (b : RunL) : ∀ k, overMax (r.from c) b k = overMax r b k
  | 0 => rfl
  | k + 1 => by rw [overMax, overMax, overMax_from r c b k]; rfl
theorem meets_from {r : Rq} {c : Int} {b : RunL} (h0 : chkR false r = 0) (h : meets (r.from c) b = true) : meets r b = true ∧ (∀ i, i < b.length → c ≤ rN b i) ∧ c < overMax r b b.length := by
  obtain ⟨h1, h2, h3⟩ := meets_split.1 h
  have hb := meets_bounds h
  rw [overMax_from] at hb
  refine ⟨meets_split.2 ⟨h0, h2, fun i hi => ?_⟩, fun i hi => ?_, ?_⟩
  · obtain ⟨g1, g2, g3⟩ := biteOk_at (h3 i hi)
    have g4 := inTime_at g2
    have g1' : isPiece r b i = true := g1
    have g2' : inTime r b i = true := decide_eq_true ⟨by have := g4.1; simp only [Rq.from] at this; omega, g4.2⟩
    simp only [biteOk, g1', g2', Bool.and_self, Bool.true_and, Bool.or_eq_true, decide_eq_true_eq]
    exact g3
  · obtain ⟨g1, g2, g3⟩ := biteOk_at (h3 i hi)
    have g4 := (inTime_at g2).1
    simp only [Rq.from] at g4
    omega
  · have := hb.2.1
    simp only [Rq.from] at this
    omega
theorem sound_up {c n : Int} {l : QL} {b : BL} (h : Sound c n l b) : Up b ∧ (∀ x ∈ b, 0 ≤ x.id ∧ x.id < n) ∧ ∀ x ∈ b, c < overV x := by
  refine ⟨?_, fun x hx => ?_, fun x hx => ?_⟩
  · unfold Up
    rw [List.pairwise_iff_getElem]
    intro i j hi hj hij
    have := ids_rise h hj hij
    rw [bk_is hi, bk_is hj] at this
    exact this
  · obtain ⟨i, hi, rfl⟩ := mem_bk hx
    exact ids_low h hi
  · obtain ⟨i, hi, rfl⟩ := mem_bk hx
    exact h.alive i hi
theorem up_sound {c n : Int} {l : QL} {b : BL} (hc : Clean l b) (c0 : 0 ≤ c) (c1 : c ≤ 48) (n0 : 0 ≤ n) (n1 : n ≤ 1048576) (hu : Up b) (hi : ∀ x ∈ b, 0 ≤ x.id ∧ x.id < n) (ha : ∀ x ∈ b, c < overV x) (hf : ∀ q : Nat, q < l.length → ∀ t : Nat, c ≤ t → t < 48 → useTo l b q t b.length ≤ vals (qu l q).runs t) : Sound c n l b := by
  refine ⟨hc, c0, c1, n0, n1, fun i h => ?_, fun i h => ha _ (bk_mem h), hf⟩
  have h1 := hi _ (bk_mem h)
  refine ⟨?_, h1.2⟩
  unfold leastId
  by_cases e : i = 0
  · rw [if_pos e]; exact h1.1
  · rw [if_neg e]
    have h2 := List.pairwise_iff_getElem.1 hu (i - 1) i (by omega) h (by omega)
    rw [bk_is h, bk_is (show i - 1 < b.length by omega)]
    omega
theorem Lit.sound {c n : Int} {l : QL} {b0 b aw : BL} (h : Lit c l b0 b aw) (hc : Clean l b0) (c0 : 0 ≤ c) (c1 : c ≤ 48) (n0 : 0 ≤ n) (n1 : n ≤ 1048576) (hu : Up b0) (hi : ∀ x ∈ b0, 0 ≤ x.id ∧ x.id < n) (ha : ∀ x ∈ b0, c < overV x) (hno : ∀ u, c ≤ u → u < 48 → ∀ q, q < l.length → overI l b u q = false) : Sound c n l b := by
  obtain ⟨h1, h2, _, _⟩ := h.clean hc c0
  refine up_sound h1 c0 c1 n0 n1 (hu.sublist h.sub) (fun x hx => hi x (h2 x hx)) (fun x hx => ha x (h2 x hx)) fun q hq t ht1 ht2 => ?_
  have := (over_not h1 hq (t := (t : Int)) (by omega) (by omega)).1 (hno t ht1 (by omega) q hq)
  rw [Int.toNat_natCast] at this
  exact this
theorem sum_perm (f : Bk → Int) {a b : BL} (h : a.Perm b) : (a.map f).sum = (b.map f).sum := by
  induction h with
  | nil => rfl
  | cons x _ ih => simp only [List.map_cons, List.sum_cons, ih]
  | swap x y l => simp only [List.map_cons, List.sum_cons]; omega
  | trans _ _ h1 h2 => exact h1.trans h2
theorem put_sound {c n : Int} {l : QL} {b : BL} {X : Bk} {fa : Option Addr} {fm fc : Nat} (h : Sound c n l b) (hX : chkB l X = 0) (hid : 0 ≤ X.id ∧ X.id < n) (hnew : ∀ y ∈ b, y.id ≠ X.id) (h12 : b.length < 12) (hr : (replR c l b X).2 = true) :
    Sound c n l (putB b ⟨X.id, X.rq, fa, fm, fc, (replR c l b X).1⟩) ∧ ∀ i, i < (replR c l b X).1.length → c ≤ rN (replR c l b X).1 i := by
  obtain ⟨hu, hi, ha⟩ := sound_up h
  have hq : chkQR l X.rq = 0 := by
    unfold chkB at hX
    by_cases e : chkQR l X.rq = 0
    · exact e
    · rw [if_neg e] at hX; exact absurd hX e
  have hR : chkR false X.rq = 0 := (meets_split.1 (no_error_at h.clean.tree hX).1).1
  obtain ⟨_, q0, q1⟩ := no_error_at h.clean.tree hX
  have hgood : meets (X.rq.from c) (replR c l b X).1 = true ∧ heldB (roomR l b X.rq.queue) (X.rq.from c) (replR c l b X).1 = true := by
    unfold replR at hr ⊢
    by_cases e : begunB X c = true
    · rw [if_pos e] at hr; cases hr
    · rw [if_neg e] at hr ⊢
      unfold placeR at hr ⊢
      by_cases er : roomE l b (X.rq.from c).queue = 0
      · rw [if_pos er] at hr ⊢
        by_cases e0 : placeErr (roomR l b (X.rq.from c).queue) (X.rq.from c) = 0
        · rw [if_pos e0] at hr ⊢
          exact find_good e0 (Prod.ext rfl hr)
        · rw [if_neg e0] at hr; cases hr
      · rw [if_neg er] at hr; cases hr
  obtain ⟨bs, hbs⟩ : ∃ bs, (replR c l b X).1 = bs := ⟨_, rfl⟩
  rw [hbs] at hgood ⊢
  obtain ⟨g1, g2⟩ := hgood
  rw [heldB_from] at g2
  obtain ⟨m1, m2, m3⟩ := meets_from hR g1
  obtain ⟨Y, hY⟩ : ∃ Y : Bk, Y = ⟨X.id, X.rq, fa, fm, fc, bs⟩ := ⟨_, rfl⟩
  rw [← hY]
  have y1 : Y.id = X.id := by rw [hY]
  have y2 : Y.rq = X.rq := by rw [hY]
  have y3 : Y.bs = bs := by rw [hY]
  rw [← y2, ← y3] at m1 g2 m3
  have hchk : chkB l Y = 0 := by unfold chkB; rw [y2, if_pos hq, ← y2, if_pos m1]
  have hmem : ∀ y ∈ putB b Y, y = Y ∨ y ∈ b := fun y hy => putB_mem hy
  have hcl : Clean l (putB b Y) := ⟨h.clean.tree, by rw [putB_len]; omega, fun i hi => by
    rcases hmem _ (bk_mem hi) with e | e
    · rw [e]; exact hchk
    · obtain ⟨j, hj, e2⟩ := mem_bk e
      rw [← e2]; exact h.clean.each j hj⟩
  rw [← y2] at q1
  refine ⟨up_sound hcl h.c0 h.c48 h.n0 h.n1 (up_put hu fun y hy => by rw [y1]; exact hnew y hy) (fun y hy => ?_) (fun y hy => ?_) fun q hq t ht1 ht2 => ?_, m2⟩
  · rcases hmem y hy with e | e
    · rw [e, y1]; exact hid
    · exact hi y e
  · rcases hmem y hy with e | e
    · rw [e, (overV_met m1).2]; exact m3
    · exact ha y e
  · rw [use_all, sum_perm _ (putB_perm b Y)]
    simp only [List.map_cons, List.sum_cons]
    have h1 := h.fits q hq t ht1 ht2
    rw [use_all] at h1
    unfold oneV at h1 ⊢
    split
    · rename_i hl
      rcases held_room2 (room_fine h.clean q1) m1 (by rw [y2] at g2 ⊢; exact g2) ht2 with h2 | h2
      · omega
      · have h3 := room_le h.clean q1 hl ht2
        rw [use_all] at h3
        unfold oneV at h3
        omega
    · omega
end Go.Proofs.YtckpdfkobdgjeaaGreatDoor
namespace Go.Proofs.YtckpdfkobdgjeaaGreatDoor
def MovedTo (c : Int) (X Y : Bk) : Prop := Y.id = X.id ∧ Y.rq = X.rq ∧ ∀ i, i < Y.bs.length → c ≤ rN Y.bs i
structure StlFacts (c n : Int) (l : QL) (b1 aw : BL) (j : Nat) (b : BL) (mv dr : List Int) : Prop where
  sound : Sound c n l b
  le : j ≤ aw.length
  told : (mv ++ dr).Perm ((aw.take j).map Bk.id)
  ids : (b.map Bk.id).Perm (b1.map Bk.id ++ mv)
  each : ∀ y ∈ b, y ∈ b1 ∨ y.id ∈ mv ∧ ∃ X ∈ aw, MovedTo c X y
theorem Stl.facts {c n : Int} {l : QL} {b1 aw : BL} (h1 : Sound c n l b1) (hC : ∀ x ∈ aw, chkB l x = 0) (hI : ∀ x ∈ aw, 0 ≤ x.id ∧ x.id < n) (hN : (b1.map Bk.id ++ aw.map Bk.id).Nodup) (h12 : b1.length + aw.length ≤ 12) {j : Nat} {b : BL} {mv dr : List Int} (h : Stl c l b1 aw j b mv dr) : StlFacts c n l b1 aw j b mv dr := by
  induction h with
  | start => exact ⟨h1, Nat.zero_le _, by simp, by simp, fun y hy => Or.inl hy⟩
  | @moved j b mv dr fa fm fc hs hj hr ih =>
    have hX := bk_mem hj
    have hfew := hs.few
    have hold : ∀ y ∈ b, y.id ≠ (bk aw j).id := by
      intro y hy e
      have h2 := ih.ids.subset (List.mem_map_of_mem hy)
      rw [List.nodup_append] at hN
      rcases List.mem_append.1 h2 with h2 | h2
      · exact hN.2.2 _ h2 _ (List.mem_map_of_mem hX) e
      · have h3 := ih.told.subset (List.mem_append_left dr h2)
        rw [List.map_take, List.mem_take_iff_getElem] at h3
        obtain ⟨i, hi, h3⟩ := h3
        have h4 := List.pairwise_iff_getElem.1 hN.2.1 i j (by simp at hi ⊢; omega) (by simpa using hj) (by omega)
        apply h4
        rw [h3, e, bk_is hj, List.getElem_map]
    obtain ⟨s1, s2⟩ := put_sound (fa := fa) (fm := fm) (fc := fc) ih.sound (hC _ hX) (hI _ hX) hold (by omega) hr
    refine ⟨s1, hj, ?_, ?_, fun y hy => ?_⟩
    · rw [List.take_succ_eq_append_getElem hj, List.map_append, List.append_assoc]
      refine (List.Perm.append_left mv List.perm_append_comm).trans ?_
      rw [← List.append_assoc]
      refine (ih.told.append_right _).trans ?_
      rw [bk_is hj]
      exact List.Perm.refl _
    · refine ((putB_perm _ _).map Bk.id).trans ?_
      rw [List.map_cons, ← List.append_assoc]
      refine (List.Perm.cons _ ih.ids).trans ?_
      exact (List.perm_append_singleton _ _).symm
    · rcases putB_mem hy with e | hy
      · refine Or.inr ⟨?_, bk aw j, hX, ?_⟩
        · rw [e]; simp
        · rw [e]; exact ⟨rfl, rfl, s2⟩
      · rcases ih.each y hy with e | ⟨e1, e2⟩
        · exact Or.inl e
        · exact Or.inr ⟨List.mem_append_left _ e1, e2⟩
  | @dropped j b mv dr hs hj hr ih =>
    refine ⟨ih.sound, hj, ?_, ih.ids, ih.each⟩
    rw [List.take_succ_eq_append_getElem hj, List.map_append, ← List.append_assoc]
    refine (ih.told.append_right _).trans ?_
    rw [bk_is hj]
    exact List.Perm.refl _
theorem same_id {b : BL} (h : (b.map Bk.id).Nodup) {x y : Bk} (hx : x ∈ b) (hy : y ∈ b) (e : x.id = y.id) : x = y := by
  obtain ⟨i, hi, rfl⟩ := List.getElem_of_mem hx
  obtain ⟨j, hj, rfl⟩ := List.getElem_of_mem hy
  have hP := List.pairwise_iff_getElem.1 h
  by_cases e1 : i = j
  · subst e1; rfl
  · exfalso
    rcases Nat.lt_or_gt_of_ne e1 with g | g
    · have := hP i j (by simpa using hi) (by simpa using hj) g
      simp only [List.getElem_map] at this
      exact this e
    · have := hP j i (by simpa using hj) (by simpa using hi) g
      simp only [List.getElem_map] at this
      exact this e.symm
structure CutFacts (c n : Int) (l : QL) (b0 b : BL) (mv dr : List Int) : Prop where
  sound : Sound c n l b
  len : b.length + dr.length = b0.length
  few : mv.length ≤ 12 ∧ dr.length ≤ 12
  each : ∀ X ∈ b0, (mv.count X.id = 0 ∧ dr.count X.id = 0 ∧ X ∈ b) ∨ (mv.count X.id = 1 ∧ dr.count X.id = 0 ∧ ∃ Y ∈ b, MovedTo c X Y) ∨ (mv.count X.id = 0 ∧ dr.count X.id = 1 ∧ ∀ Y ∈ b, Y.id ≠ X.id)
theorem cut_facts {c n : Int} {l : QL} {b0 b1 aw b : BL} {mv dr : List Int} (hc : Clean l b0) (c0 : 0 ≤ c) (c1 : c ≤ 48) (n0 : 0 ≤ n) (n1 : n ≤ 1048576) (hu : Up b0) (hi : ∀ x ∈ b0, 0 ≤ x.id ∧ x.id < n) (ha : ∀ x ∈ b0, c < overV x) (h : Lit c l b0 b1 aw) (hno : ∀ u, c ≤ u → u < 48 → ∀ q, q < l.length → overI l b1 u q = false) (hs : Stl c l b1 aw aw.length b mv dr) : CutFacts c n l b0 b mv dr := by
  obtain ⟨p1, p2⟩ := h.all hc c0 hu
  obtain ⟨k1, k2, k3, k4⟩ := h.clean hc c0
  have hN : (b1.map Bk.id ++ aw.map Bk.id).Nodup := by
    rw [← List.map_append]
    exact (p1.map Bk.id).nodup_iff.2 hu.nodup
  have hfew := hc.few
  have F := hs.facts (n := n) (h.sound hc c0 c1 n0 n1 hu hi ha hno) (fun x hx => by
    obtain ⟨j, hj, e⟩ := mem_bk (k3 x hx)
    rw [← e]; exact hc.each j hj) (fun x hx => hi x (k3 x hx)) hN (by omega)
  have ht := F.told
  rw [List.take_length] at ht
  have hlen : mv.length + dr.length = aw.length := by
    have := ht.length_eq
    simpa using this
  have hlb : b.length = b1.length + mv.length := by
    have := F.ids.length_eq
    simpa using this
  have hN2 := List.nodup_append.1 hN
  have hmd : (mv ++ dr).Nodup := ht.nodup_iff.2 hN2.2.1
  have hmd2 := List.nodup_append.1 hmd
  have hin : ∀ X ∈ b0, X ∈ b1 ∨ X ∈ aw := fun X hX => List.mem_append.1 (p1.symm.subset hX)
  have hcount : ∀ {s : List Int} {a : Int}, s.Nodup → a ∈ s → s.count a = 1 := fun hs ha => by
    have h1 := List.nodup_iff_count.1 hs
    have h2 := List.count_pos_iff.2 ha
    exact Nat.le_antisymm (h1 _) h2
  refine ⟨F.sound, by omega, by omega, fun X hX => ?_⟩
  rcases hin X hX with hb | hw
  · have hno : X.id ∉ mv ++ dr := fun e => by
      exact hN2.2.2 _ (List.mem_map_of_mem hb) _ (ht.subset e) rfl
    rw [List.mem_append, not_or] at hno
    refine Or.inl ⟨List.count_eq_zero.2 hno.1, List.count_eq_zero.2 hno.2, ?_⟩
    have h1 := F.ids.symm.subset (List.mem_append_left mv (List.mem_map_of_mem (f := Bk.id) hb))
    obtain ⟨y, hy, e⟩ := List.mem_map.1 h1
    rcases F.each y hy with g | ⟨g, _⟩
    · rw [← same_id hN2.1 g hb e]; exact hy
    · rw [e] at g; exact absurd g hno.1
  · have h1 : X.id ∈ mv ++ dr := ht.symm.subset (List.mem_map_of_mem hw)
    have hnb : ∀ y ∈ b1, y.id ≠ X.id := fun y hy e => hN2.2.2 _ (List.mem_map_of_mem hy) _ (List.mem_map_of_mem hw) e
    rcases List.mem_append.1 h1 with hm | hd
    · have hnd : X.id ∉ dr := fun e => hmd2.2.2 _ hm _ e rfl
      refine Or.inr (Or.inl ⟨hcount hmd2.1 hm, List.count_eq_zero.2 hnd, ?_⟩)
      have h2 := F.ids.symm.subset (List.mem_append_right (b1.map Bk.id) hm)
      obtain ⟨y, hy, e⟩ := List.mem_map.1 h2
      rcases F.each y hy with g | ⟨_, Z, hZ, g⟩
      · exact absurd e (hnb y g)
      · have : Z = X := same_id hN2.2.1 hZ hw (g.1.symm.trans e)
        rw [this] at g
        exact ⟨y, hy, g⟩
    · have hnm : X.id ∉ mv := fun e => hmd2.2.2 _ e _ hd rfl
      refine Or.inr (Or.inr ⟨List.count_eq_zero.2 hnm, hcount hmd2.2.1 hd, fun y hy e => ?_⟩)
      have h2 := F.ids.subset (List.mem_map_of_mem (f := Bk.id) hy)
      rw [e] at h2
      rcases List.mem_append.1 h2 with g | g
      · obtain ⟨z, hz, e2⟩ := List.mem_map.1 g
        exact hnb z hz e2
      · exact hnm g
theorem Stl.ids {c : Int} {l : QL} {b1 aw b : BL} {j : Nat} {mv dr : List Int} (h : Stl c l b1 aw j b mv dr) : ∀ i, i ∈ mv ∨ i ∈ dr → ∃ x ∈ aw, x.id = i := by
  induction h with
  | start => intro i hi; rcases hi with hi | hi <;> cases hi
  | moved _ hj _ ih =>
    intro i hi
    rw [List.mem_append, List.mem_singleton] at hi
    rcases hi with (hi | hi) | hi
    · exact ih i (Or.inl hi)
    · exact ⟨_, bk_mem hj, hi.symm⟩
    · exact ih i (Or.inr hi)
  | dropped _ hj _ ih =>
    intro i hi
    rw [List.mem_append, List.mem_singleton] at hi
    rcases hi with hi | hi | hi
    · exact ih i (Or.inl hi)
    · exact ih i (Or.inr hi)
    · exact ⟨_, bk_mem hj, hi.symm⟩
theorem Stl.nil {c : Int} {l : QL} {b1 b : BL} {mv dr : List Int} (h : Stl c l b1 [] 0 b mv dr) : b = b1 ∧ mv = [] ∧ dr = [] := by
  cases h
  exact ⟨rfl, rfl, rfl⟩
end Go.Proofs.YtckpdfkobdgjeaaGreatDoor
namespace Go.Proofs.YtckpdfkobdgjeaaGreatDoor
open Go.RowKit
theorem cell_off {g : Nat} {w : World} {p : Addr} {v : Value} (h : w.cell? p = some v) (hne : p.block ≠ g) : (Off g w).cell? p = some v :=
  (World.cell?_of_block (w := w) (w' := Off g w) (World.putObj_heap_other hne)).trans h
theorem RunsIn.off {g : Nat} {w : World} {a : Option Addr} {n cap : Nat} {l : RunL} (h : RunsIn w a n cap l) (hne : 0 < n → ∀ b off, a = some ⟨b, off, none⟩ → b ≠ g) : RunsIn (Off g w) a n cap l := by
  refine ⟨h.len, h.le, h.bound, h.capb, fun hp => ?_⟩
  obtain ⟨b, off, ha, hc⟩ := h.cells hp
  exact ⟨b, off, ha, fun i hi => ⟨cell_off (hc i hi).1 (hne hp b off ha), cell_off (hc i hi).2 (hne hp b off ha)⟩⟩
theorem QsIn.off {g : Nat} {w : World} {a : Option Addr} {n cap : Nat} {l : QL} (h : QsIn w a n cap l) (hne : 0 < n → ∀ b off, a = some ⟨b, off, none⟩ → b ≠ g) (hc : ∀ i, i < n → 0 < (qu l i).cn → ∀ b off, (qu l i).ca = some ⟨b, off, none⟩ → b ≠ g) : QsIn (Off g w) a n cap l := by
  refine ⟨h.len, h.le, h.capb, fun hp => ?_, fun i hi => (h.caps i hi).off (hc i hi), h.names⟩
  obtain ⟨b, off, ha, hk⟩ := h.cells hp
  exact ⟨b, off, ha, fun i hi => ⟨cell_off (hk i hi).1 (hne hp b off ha), cell_off (hk i hi).2.1 (hne hp b off ha), cell_off (hk i hi).2.2 (hne hp b off ha)⟩⟩
theorem over_nil {l : QL} (h : Clean l []) {q : Nat} (hq : q < l.length) {t : Int} (h0 : 0 ≤ t) (h1 : t < 48) : overI l [] t q = false := by
  cases e : overI l [] t q with
  | false => rfl
  | true => have := over_some h hq h0 h1 e; cases this
end Go.Proofs.YtckpdfkobdgjeaaGreatDoor
namespace Go.Proofs.YtckpdfkobdgjeaaGreatDoor
open Go.RowKit
def OffL : List Nat → World → World
  | [], w => w
  | k :: ks, w => Off k (OffL ks w)
theorem offL_size : ∀ (ks : List Nat) (w : World), (OffL ks w).heap.size = w.heap.size
  | [], _ => rfl
  | k :: ks, w => by rw [OffL, off_size, offL_size ks w]
theorem offL_out : ∀ {ks : List Nat} {w : World} {b : Nat}, b ∉ ks → (OffL ks w).heap[b]? = w.heap[b]?
  | [], _, _, _ => rfl
  | k :: ks, w, b, h => by
    rw [List.mem_cons, not_or] at h
    rw [OffL, show (Off k (OffL ks w)).heap[b]? = (OffL ks w).heap[b]? from World.putObj_heap_other h.1, offL_out h.2]
theorem offL_in : ∀ {ks : List Nat} {w : World} {b : Nat}, b ∈ ks → b < w.heap.size → (OffL ks w).heap[b]? = some (.deferred none)
  | k :: ks, w, b, h, hl => by
    by_cases e : b = k
    · subst e
      exact World.putObj_heap_same (by rw [offL_size]; exact hl)
    · rw [OffL, show (Off k (OffL ks w)).heap[b]? = (OffL ks w).heap[b]? from World.putObj_heap_other e]
      exact offL_in ((List.mem_cons.1 h).resolve_left e) hl
theorem offL_same : ∀ (ks : List Nat) (w : World), (OffL ks w).os = w.os ∧ (OffL ks w).tape = w.tape ∧ (OffL ks w).output = w.output
  | [], _ => ⟨rfl, rfl, rfl⟩
  | k :: ks, w => by
    obtain ⟨a, b, c⟩ := offL_same ks w
    exact ⟨a, b, c⟩
structure But (ks : List Nat) (w w' : World) : Prop where
  os : w'.os = w.os
  tape : w'.tape = w.tape
  output : w'.output = w.output
  size : w.heap.size ≤ w'.heap.size
  block : ∀ k, k < w.heap.size → k ∉ ks → w'.heap[k]? = w.heap[k]?
theorem But.refl (ks : List Nat) (w : World) : But ks w w := ⟨rfl, rfl, rfl, Nat.le_refl _, fun _ _ _ => rfl⟩
theorem But.trans {ks : List Nat} {a b c : World} (h : But ks a b) (k : But ks b c) : But ks a c :=
  ⟨k.os.trans h.os, k.tape.trans h.tape, k.output.trans h.output, Nat.le_trans h.size k.size, fun i hi hn => (k.block i (Nat.lt_of_lt_of_le hi h.size) hn).trans (h.block i hi hn)⟩
theorem But.grown {ks : List Nat} {w w' : World} {g : Nat} (h : w.grownBy w' (some g)) (hg : g ∈ ks) : But ks w w' :=
  ⟨h.os, h.tape, h.output, h.size, fun k hk hn => h.block k hk (fun e => hn (by rw [Option.some.inj e]; exact hg))⟩
theorem But.below {ks : List Nat} {w w' : World} (h : Below w.heap.size w w') : But ks w w' := ⟨h.os, h.tape, h.output, h.size, fun k hk _ => h.block k hk⟩
theorem But.set {ks : List Nat} {w : World} {p : Addr} (hp : p.block ∈ ks) (v : Value) : But ks w (w.setCell p v) :=
  ⟨rfl, rfl, rfl, by simp [World.setCell], fun k _ hn => Below.heap_setCell _ _ _ k (fun e => hn (by rw [e]; exact hp))⟩
theorem But.far {ks : List Nat} {B : Nat} {w w' : World} (h : But ks w w') (hB : B ≤ w.heap.size) (hk : ∀ k ∈ ks, B ≤ k) : Below B w w' :=
  ⟨h.os, h.tape, h.output, h.size, fun k hlt => h.block k (by omega) (fun e => by have := hk k e; omega)⟩
theorem offL_below {ks : List Nat} {w w' : World} (h : But ks w w') : Below (OffL ks w).heap.size (OffL ks w) (OffL ks w') := by
  obtain ⟨a1, a2, a3⟩ := offL_same ks w
  obtain ⟨b1, b2, b3⟩ := offL_same ks w'
  refine ⟨by rw [a1, b1, h.os], by rw [a2, b2, h.tape], by rw [a3, b3, h.output], by rw [offL_size, offL_size]; exact h.size, fun k hk => ?_⟩
  rw [offL_size] at hk
  by_cases e : k ∈ ks
  · rw [offL_in e hk, offL_in e (Nat.lt_of_lt_of_le hk h.size)]
  · rw [offL_out e, offL_out e, h.block k hk e]
theorem RunsIn.offL {w : World} {a : Option Addr} {n cap : Nat} {l : RunL} (h : RunsIn w a n cap l) : ∀ (ks : List Nat), (0 < n → ∀ b off, a = some ⟨b, off, none⟩ → b ∉ ks) → RunsIn (OffL ks w) a n cap l
  | [], _ => h
  | k :: ks, hn => (RunsIn.offL h ks fun hp b off e hb => hn hp b off e (List.mem_cons_of_mem _ hb)).off fun hp b off e e2 => hn hp b off e (by rw [e2]; exact List.mem_cons_self ..)
theorem QsIn.offL {w : World} {a : Option Addr} {n cap : Nat} {l : QL} (h : QsIn w a n cap l) : ∀ (ks : List Nat), (0 < n → ∀ b off, a = some ⟨b, off, none⟩ → b ∉ ks) → (∀ i, i < n → 0 < (qu l i).cn → ∀ b off, (qu l i).ca = some ⟨b, off, none⟩ → b ∉ ks) → QsIn (OffL ks w) a n cap l
  | [], _, _ => h
  | k :: ks, hn, hc => (QsIn.offL h ks (fun hp b off e hb => hn hp b off e (List.mem_cons_of_mem _ hb)) (fun i hi hp b off e hb => hc i hi hp b off e (List.mem_cons_of_mem _ hb))).off (fun hp b off e e2 => hn hp b off e (by rw [e2]; exact List.mem_cons_self ..)) (fun i hi hp b off e e2 => hc i hi hp b off e (by rw [e2]; exact List.mem_cons_self ..))
theorem RunsIn.onL {a : Option Addr} {n cap : Nat} {l : RunL} : ∀ {ks : List Nat} {w : World}, RunsIn (OffL ks w) a n cap l → RunsIn w a n cap l
  | [], _, h => h
  | _ :: _, _, h => RunsIn.onL (RunsIn.on h)
theorem QsIn.onL {a : Option Addr} {n cap : Nat} {l : QL} : ∀ {ks : List Nat} {w : World}, QsIn (OffL ks w) a n cap l → QsIn w a n cap l
  | [], _, h => h
  | _ :: _, _, h => QsIn.onL (QsIn.on h)
theorem Inner.onL {x : Bk} {ks : List Nat} {w : World} (h : Inner (OffL ks w) x) : Inner w x := ⟨RunsIn.onL h.1, RunsIn.onL h.2⟩
def capL (l : QL) (q : Nat) (rs : RunL) : QL := l.set q ⟨(qu l q).name, (qu l q).parent, none, 0, 0, rs⟩
def chgE (c n : Int) (l : QL) (b : BL) (q : Int) (rs : RunL) : Int := if planE c n l b = 0 then (if 0 ≤ q ∧ q < l.length then chkT (capL l q.toNat rs) else 6) else planE c n l b
theorem bareQ_cap {l l' : QL} (h : bareQ l' = bareQ l) (q : Nat) (a : Option Addr) (m k : Nat) (rs : RunL) : bareQ (l'.set q ⟨(qu l' q).name, (qu l' q).parent, a, m, k, rs⟩) = bareQ (capL l q rs) := by
  have hq : (qu l' q).bare = (qu l q).bare := by rw [← qu_bare, h, qu_bare]
  have h1 : (qu l' q).name = (qu l q).name := (show (qu l' q).bare.name = (qu l q).bare.name by rw [hq])
  have h2 : (qu l' q).parent = (qu l q).parent := (show (qu l' q).bare.parent = (qu l q).bare.parent by rw [hq])
  unfold capL bareQ at *
  rw [List.map_set, List.map_set, h, h1, h2]
  rfl
theorem capL_len (l : QL) (q : Nat) (rs : RunL) : (capL l q rs).length = l.length := List.length_set
theorem clean_cap {l l' : QL} {b : BL} (h : Clean l b) (ht : chkT l' = 0) (hl : l'.length = l.length) : Clean l' b := by
  refine ⟨ht, h.few, fun i hi => ?_⟩
  have h1 := h.each i hi
  unfold chkB chkQR at h1 ⊢
  rw [if_pos h.tree] at h1
  rw [if_pos ht, hl]
  exact h1
theorem clean_same {l : QL} {b b' : BL} (h : Clean l b) (hb : bareB b' = bareB b) : Clean l b' := by
  have hl : b'.length = b.length := bare_len hb
  refine ⟨h.tree, by rw [hl]; exact h.few, fun i hi => ?_⟩
  rw [← chkB_bare, bare_at hb, chkB_bare]
  exact h.each i (by omega)
def ChAns (w w' : World) (e : Ending) (c n : Int) (tn : Nat) (l : QL) (b : BL) (q : Nat) (rs : RunL) : Prop :=
  ∃ (g k1 : Nat) (l9 : QL) (aa : Option Addr) (k9 : Nat) (b9 b0 b1 aw : BL) (mv dr : List Int) (ma : Option Addr) (mk : Nat) (da : Option Addr) (dk : Nat),
    e = .returned (.tuple #[.agg #[.int .i64 c, .int .i64 n, .slice (some ⟨g, 0, none⟩) tn k1, .slice aa (List.length b9) k9], .slice ma (List.length mv) mk, .slice da (List.length dr) dk, .int .i64 0]) ∧ StIn w' (some ⟨g, 0, none⟩) tn k1 l9 aa b9.length k9 b9 ∧ bareQ l9 = bareQ (capL l q rs) ∧ bareB b0 = bareB b ∧ Lit c l9 b0 b1 aw ∧ (∀ u, c ≤ u → u < 48 → ∀ k, k < l9.length → overI l9 b1 u k = false) ∧ Stl c l9 b1 aw aw.length b9 mv dr ∧ OwnInts w' w.heap.size (.slice ma mv.length mk) mv ∧ OwnInts w' w.heap.size (.slice da dr.length dk) dr ∧ Below w.heap.size w w'
def ChNew (w w' : World) (e : Ending) (c n : Int) (tn : Nat) (l : QL) (b : BL) (q : Nat) (rs : RunL) : Prop :=
  ∃ (g k1 : Nat) (l9 : QL) (aa : Option Addr) (k9 : Nat) (b9 b0 b1 aw : BL) (mv dr : List Int) (ma : Option Addr) (mk : Nat) (da : Option Addr) (dk : Nat),
    e = .returned (.tuple #[.agg #[.int .i64 c, .int .i64 n, .slice (some ⟨g, 0, none⟩) tn k1, .slice aa (List.length b9) k9], .slice ma (List.length mv) mk, .slice da (List.length dr) dk, .int .i64 0]) ∧ StIn w' (some ⟨g, 0, none⟩) tn k1 l9 aa b9.length k9 b9 ∧ bareQ l9 = bareQ (capL l q rs) ∧ bareB b0 = bareB b ∧ Lit c l9 b0 b1 aw ∧ (∀ u, c ≤ u → u < 48 → ∀ k, k < l9.length → overI l9 b1 u k = false) ∧ Stl c l9 b1 aw aw.length b9 mv dr ∧ OwnInts w' w.heap.size (.slice ma mv.length mk) mv ∧ OwnInts w' w.heap.size (.slice da dr.length dk) dr ∧ Below w.heap.size w w' ∧ NewSt w.heap.size (some ⟨g, 0, none⟩) tn l9 aa b9.length b9
end Go.Proofs.YtckpdfkobdgjeaaGreatDoor
namespace Go.Proofs.YtckpdfkobdgjeaaGreatDoor
open Go.RowKit
def Rd (w : World) (R : Nat) (t : ByteArray) (k : Nat) : Prop := w.heap[R]? = some (.cells #[.string t, .int .i64 (k : Int)] 82 (0, 0))
theorem Rd.later {w w' : World} {R : Nat} {t : ByteArray} {k : Nat} (h : Rd w R t k) (hb : Below w.heap.size w w') : Rd w' R t k := (hb.block R (Array.getElem?_eq_some_iff.1 h).1).trans h
def Told (w : World) (v : Value) : Prop := w.cell? ⟨0, 0, none⟩ = some v ∧ ∃ T u, v = .iface T u
def byt (t : ByteArray) (k : Nat) : Int := if h : k < t.size then (t[k].toNat : Int) else 0
theorem byt_bd (t : ByteArray) (k : Nat) : 0 ≤ byt t k ∧ byt t k ≤ 255 := by
  unfold byt
  split
  · rename_i h
    have := t[k].toNat_lt
    omega
  · omega
theorem But.drewN (ks : List Nat) (w : World) (d : Nat) : But ks w (w.drewN d) := ⟨rfl, rfl, rfl, Nat.le_refl _, fun _ _ _ => rfl⟩
set_option maxRecDepth 100000 in
set_option maxHeartbeats 1000000 in
theorem number_ok (w : World) (R : Nat) (t : ByteArray) (k : Nat) (h : Rd w R t k) (hk : k < t.size) (ht : t.size ≤ 4096) :
    Calls Tryz.prog 74 #[.pointer (some ⟨R, 0, none⟩)] w fun e w' => e = .returned (.int .i64 (byt t k)) ∧ Rd w' R t (k + 1) ∧ But [R] w w' := by
  have c0 : w.cell? ⟨R, 0, none⟩ = some (.string t) := by rw [cell_of_row w R 0 _ _ _ h]; rfl
  have c1 : w.cell? ⟨R, 1, none⟩ = some (.int .i64 (k : Int)) := by rw [cell_of_row w R 1 _ _ _ h]; rfl
  have cf : ∀ m, w.frozen? ⟨R, m, none⟩ = false := fun m => frozen_of_row w R m _ _ h
  have hk' : ¬ (t.size ≤ k) := by omega
  have hkI : (k : Int) < t.size := by omega
  have HH := hid h
  clear h
  go_enter Tryz.func74, Tryz.ntmps74
  go_wp2
  go_quiet (fail)
  go_wp2
  go_quiet (fail)
  go_wp2
  have e1 : byt t k = (t[k].toNat : Int) := by unfold byt; rw [dif_pos hk]
  have e2 : wrap64 (t[k].toNat : Int) = (t[k].toNat : Int) := by
    have := t[k].toNat_lt
    unfold wrap64
    omega
  rw [e1, e2]
  go_ret
  exact ⟨rfl, heap_setCell_same (w.drewN _) R 1 _ _ _ HH.out, (But.drewN [R] w _).trans (But.set (p := ⟨R, 1, none⟩) (List.mem_singleton.2 rfl) _)⟩
set_option maxRecDepth 100000 in
set_option maxHeartbeats 1000000 in
theorem number_no (w : World) (R : Nat) (t : ByteArray) (k : Nat) (h : Rd w R t k) (hk : t.size ≤ k) (v : Value) (hv : Told w v) :
    Calls Tryz.prog 74 #[.pointer (some ⟨R, 0, none⟩)] w fun e w' => e = .panicked [{ v := v, recovered := false }] ∧ But [R] w w' := by
  have c0 : w.cell? ⟨R, 0, none⟩ = some (.string t) := by rw [cell_of_row w R 0 _ _ _ h]; rfl
  have c1 : w.cell? ⟨R, 1, none⟩ = some (.int .i64 (k : Int)) := by rw [cell_of_row w R 1 _ _ _ h]; rfl
  obtain ⟨hv0, T, u, rfl⟩ := hv
  clear h
  go_enter Tryz.func74, Tryz.ntmps74
  go_wp2
  go_quiet (fail)
  go_wp2
  exact ⟨rfl, rfl, But.drewN _ _ _⟩
theorem Told.but {w w' : World} {v : Value} {R : Nat} (h : Told w v) (hR : 0 < R) (hb : But [R] w w') : Told w' v := by
  refine ⟨?_, h.2⟩
  rw [World.cell?_of_block (w := w) (hb.block 0 (block_lt_of_cell h.1) (fun e => by have := List.mem_singleton.1 e; omega))]
  exact h.1
theorem number_any (w : World) (R : Nat) (t : ByteArray) (k : Nat) (h : Rd w R t k) (ht : t.size ≤ 4096) (v : Value) (hv : Told w v) :
    Calls Tryz.prog 74 #[.pointer (some ⟨R, 0, none⟩)] w fun e w' => (k < t.size ∧ e = .returned (.int .i64 (byt t k)) ∧ Rd w' R t (k + 1) ∧ But [R] w w') ∨ (t.size ≤ k ∧ e = .panicked [{ v := v, recovered := false }] ∧ But [R] w w') := by
  by_cases hk : k < t.size
  · refine (number_ok w R t k h hk ht).mono ?_
    rintro e w' ⟨h1, h2, h3⟩
    exact Or.inl ⟨hk, h1, h2, h3⟩
  · refine (number_no w R t k h (by omega) v hv).mono ?_
    rintro e w' ⟨h1, h2⟩
    exact Or.inr ⟨by omega, h1, h2⟩
set_option maxRecDepth 100000 in
set_option maxHeartbeats 1000000 in
theorem count_any (w : World) (R : Nat) (t : ByteArray) (k : Nat) (h : Rd w R t k) (ht : t.size ≤ 4096) (v : Value) (hv : Told w v) (hR : 0 < R) (most : Int) :
    Calls Tryz.prog 76 #[.pointer (some ⟨R, 0, none⟩), .int .i64 most] w fun e w' => (k < t.size ∧ byt t k ≤ most ∧ e = .returned (.int .i64 (byt t k)) ∧ Rd w' R t (k + 1) ∧ But [R] w w') ∨ (¬ (k < t.size ∧ byt t k ≤ most) ∧ e = .panicked [{ v := v, recovered := false }] ∧ But [R] w w') := by
  have K := hid (number_any w R t k h ht v hv)
  have HV := hid hv
  clear h hv
  go_enter Tryz.func76, Tryz.ntmps76
  go_wp2_with fail
  refine K.out.mono ?_
  rintro e w1 (⟨hk, rfl, hr, hb⟩ | ⟨hk, rfl, hb⟩)
  · obtain ⟨y, hy⟩ : ∃ y, byt t k = y := ⟨_, rfl⟩
    rw [hy]
    have hv1 := HV.out.but hR hb
    obtain ⟨hv0, T, u, hvu⟩ := hv1
    subst hvu
    have HR := hid hr
    have HB := hid hb
    have HY := hid hy
    clear hr hb hy
    by_cases hm : y ≤ most
    · have hm' : ¬ most < y := by omega
      go_wp2
      go_ret
      exact Or.inl ⟨hk, by rw [HY.out]; omega, by rw [HY.out]; rfl, HR.out, HB.out⟩
    · have hm' : most < y := by omega
      go_wp2
      exact ⟨rfl, Or.inr ⟨fun h => by have h2 := h.2; rw [HY.out] at h2; omega, rfl, HB.out⟩⟩
  · have HB := hid hb
    clear hb
    go_wp2
    exact ⟨rfl, Or.inr ⟨fun h => by omega, rfl, HB.out⟩⟩
end Go.Proofs.YtckpdfkobdgjeaaGreatDoor
namespace Go.Proofs.YtckpdfkobdgjeaaGreatDoor
open Go.RowKit
def prs (t : ByteArray) (k n : Nat) : RunL := (List.range n).map fun j => (byt t (k + 2 * j), byt t (k + 2 * j + 1))
theorem prs_len (t : ByteArray) (k n : Nat) : (prs t k n).length = n := by simp [prs]
theorem prs_snoc (t : ByteArray) (k n : Nat) : prs t k (n + 1) = prs t k n ++ [(byt t (k + 2 * n), byt t (k + 2 * n + 1))] := by simp [prs, List.range_succ]
theorem cellsOf_snoc (l : RunL) (a b : Int) : cellsOf (l ++ [(a, b)]) = cellsOf l ++ [.int .i64 a, .int .i64 b] := by
  induction l with
  | nil => rfl
  | cons p l ih =>
    obtain ⟨x, y⟩ := p
    show _ :: _ :: cellsOf (l ++ [(a, b)]) = _
    rw [ih]
    rfl
theorem But.later {ks : List Nat} {w w1 w2 : World} (h : But ks w w1) (h2 : Below w1.heap.size w1 w2) : But ks w w2 := h.trans (But.below h2)
theorem row_but {w w' : World} {R B ty : Nat} {v : Value} {n z : Nat} {xs : List Value} (h : w.ownsRow B ty z v n xs) (hb : But [R] w w') (hR : v.ownBlock ≠ some R) : w'.ownsRow B ty z v n xs := by
  refine ⟨h.1, ?_⟩
  rcases h.2 with hz | ⟨g, cap, cur, rfl, hB, hg, rest⟩
  · exact .inl hz
  · exact .inr ⟨g, cap, cur, rfl, hB, (hb.block g (Array.getElem?_eq_some_iff.1 hg).1 (fun e => hR (by rw [List.mem_singleton.1 e]; rfl))).trans hg, rest⟩
set_option maxRecDepth 100000 in
set_option maxHeartbeats 1000000 in
theorem joinPiece_any (w : World) (a b : Int) :
    Calls Tryz.prog 117 #[.int .i64 a, .int .i64 b] w fun e w' => e = .returned (.agg #[.int .i64 a, .int .i64 b]) ∧ Below w.heap.size w w' := by
  obtain ⟨S, hS⟩ : ∃ S, w.heap.size = S := ⟨_, rfl⟩
  have HSS := hid hS
  go_enter Tryz.func117, Tryz.ntmps117
  go_wp2_with fail
  have h1 : (w.alloc (.cells #[.int .i64 a, .int .i64 b] 64)).heap[S]? = some (.cells #[.int .i64 a, .int .i64 b] 64 (0, 0)) := by rw [← HSS.out]; exact heap_alloc_new w _
  refine bodyPost_ret (v := .agg #[.int .i64 a, .int .i64 b]) (results_cell_row Tryz.results117 _ _ S 64 #[.int .i64 a, .int .i64 b] (0, 0) _ rfl h1 Tryz.underlying64 rfl (by kernel_rfl)) rfl ⟨rfl, ?_⟩
  exact (Below.refl _ _).alloc (Nat.le_refl _) _
theorem putPiece_row (w : World) (B : Nat) (v : Value) (l : RunL) (h : w.ownsRow B 64 2 v l.length (cellsOf l)) (a b : Int) (gL : Nat) (hL : w.heap[gL]? = some (.cells #[.int .i64 a, .int .i64 b] 64 (0, 0))) (hl : l.length ≤ 1000) (hB : B ≤ w.heap.size) :
    ∃ g k w', (∀ ty, (Builtin.append_ #[22, 22] ty #[v, .slice (some ⟨gL, 0, none⟩) 1 1]).run Tryz.prog w = .ok (.slice (some ⟨g, 0, none⟩) (l.length + 1) k) w') ∧ w'.ownsRow B 64 2 (.slice (some ⟨g, 0, none⟩) (l.length + 1) k) (l.length + 1) (cellsOf (l ++ [(a, b)])) ∧ w.grownBy w' v.ownBlock := by
  obtain ⟨i0, hi, e⟩ := Option.map_eq_some_iff.1 (show (Tryz.prog.info? 64).map (fun i => (i.zero, i.size, i.bytes)) = some (some (.agg #[.int .i64 0, .int .i64 0]), 2, 16) from by kernel_rfl)
  simp only [Prod.mk.injEq] at e
  obtain ⟨e1, e2, e3⟩ := e
  obtain ⟨g, k, w', h1, h2, h3, h4, h5⟩ := run_append_lies w 22 0 B 64 i0 _ 2 16 Tryz.underlying22 hi e1 e2 e3 (by rfl) (by omega) v l.length _ h ⟨gL, 0, none⟩ 1 1 [.int .i64 a, .int .i64 b] (by simp)
    (fun j u hu => by rw [Addr.add_lit, Nat.zero_add, cell_of_row w gL j _ _ _ hL]; simpa using hu) (fun u hu => by
      simp only [List.mem_cons, List.not_mem_nil, or_false] at hu
      rcases hu with rfl | rfl <;> rfl) (by omega) (by simp only [maxLen]; omega) (by omega) hB w.heap.size rfl
  exact ⟨g, k, w', fun ty => h1, by rw [cellsOf_snoc]; exact h2, h3⟩
set_option maxRecDepth 100000 in
set_option maxHeartbeats 4000000 in
theorem listPiece_any (w : World) (R : Nat) (t : ByteArray) (k n : Nat) (h : Rd w R t k) (ht : t.size ≤ 4096) (v : Value) (hv : Told w v) (hR : 0 < R) (hn : n ≤ 255) (hk : k ≤ t.size) :
    Calls Tryz.prog 116 #[.int .i64 (n : Int), .func (.func 74) #[.pointer (some ⟨R, 0, none⟩)] #[], .func (.func 117) #[] #[]] w fun e w' =>
      (k + 2 * n ≤ t.size ∧ ∃ a c, e = .returned (.slice a n c) ∧ RunsIn w' a n c (prs t k n) ∧ (∀ b off, a = some ⟨b, off, none⟩ → w.heap.size ≤ b) ∧ Rd w' R t (k + 2 * n) ∧ But [R] w w') ∨
      (t.size < k + 2 * n ∧ e = .panicked [{ v := v, recovered := false }] ∧ But [R] w w') := by
  have hRw : R < w.heap.size := (Array.getElem?_eq_some_iff.1 h).1
  have HR0 := hid h
  have HV := hid hv
  clear h hv
  go_enter Tryz.func116, Tryz.ntmps116
  go_wp2_with fail
  go_loopg [7, 11] n (fun gk (u p : Value) wr => ∃ i : Nat, p = .int .i64 i ∧ i ≤ n ∧ gk = n - i ∧ k + 2 * i ≤ t.size ∧ wr.ownsRow w.heap.size 64 2 u (prs t k i).length (cellsOf (prs t k i)) ∧ Rd wr R t (k + 2 * i) ∧ But [R] w wr)
  case atStart => exact ⟨0, rfl, by omega, by omega, by omega, World.ownsRow_nil _ _ _ _, HR0.out, But.refl _ _⟩
  case round =>
    obtain ⟨i, rfl, hi, rfl, hki, hrow, hrd, hb⟩ := hrel
    have hown : ∀ {u : Value} {xs : List Value} {m : Nat} {wx : World}, wx.ownsRow w.heap.size 64 2 u m xs → u.ownBlock ≠ some R := fun hx e => by have := (hx.lt R e).1; omega
    by_cases hlt : i < n
    · have hlt' : (i : Int) < n := by omega
      have K1 := hid (number_any wr R t (k + 2 * i) hrd ht v (HV.out.but hR hb))
      have HROW := hid hrow
      have HB := hid hb
      have hu := hown hrow
      have HU := hid hu
      clear hrow hrd hb hu
      go_wp2_with fail
      refine K1.out.mono ?_
      rintro e w1 (⟨h1, rfl, hr1, hb1⟩ | ⟨h1, rfl, hb1⟩)
      · have hB1 := HB.out.trans hb1
        have K2 := hid (number_any w1 R t (k + 2 * i + 1) hr1 ht v (HV.out.but hR hB1))
        have HROW1 := hid (row_but HROW.out hb1 HU.out)
        have HB1 := hid hB1
        obtain ⟨x, hx⟩ : ∃ x, byt t (k + 2 * i) = x := ⟨_, rfl⟩
        rw [hx]
        have HX := hid hx
        clear hr1 hb1 hB1 hx
        go_wp2_with fail
        refine K2.out.mono ?_
        rintro e w2 (⟨h2, rfl, hr2, hb2⟩ | ⟨h2, rfl, hb2⟩)
        · have HB2 := hid (HB1.out.trans hb2)
          have HROW2 := hid (row_but HROW1.out hb2 HU.out)
          have HR2 := hid hr2
          obtain ⟨y, hy⟩ : ∃ y, byt t (k + 2 * i + 1) = y := ⟨_, rfl⟩
          rw [hy]
          have HY := hid hy
          have K3 := hid (joinPiece_any w2 x y)
          clear hr2 hb2 hy
          go_wp2_with fail
          refine K3.out.mono ?_
          rintro e w3 ⟨rfl, hb3⟩
          have hrow3 := ownsRow_later HROW2.out hb3
          obtain ⟨W4, hW4⟩ : ∃ W4, W4 = w3.alloc (.cells #[.int .i64 x, .int .i64 y] 64) := ⟨_, rfl⟩
          have hb4 : Below w3.heap.size w3 W4 := by rw [hW4]; exact (Below.refl _ _).alloc (Nat.le_refl _) _
          have hL4 : W4.heap[w3.heap.size]? = some (.cells #[.int .i64 x, .int .i64 y] 64 (0, 0)) := by rw [hW4]; exact heap_alloc_new w3 _
          have hs2 := HB2.out.size
          have hs3 := hb3.size
          have hs4 := hb4.size
          obtain ⟨g, c9, W9, hrun, hr9, hg9⟩ := putPiece_row W4 w.heap.size _ _ (ownsRow_later hrow3 hb4) x y w3.heap.size hL4 (by rw [prs_len]; omega) (by omega)
          rw [prs_len] at hrun hr9
          rw [hW4] at hrun
          have hR2 : R < w2.heap.size := (Array.getElem?_eq_some_iff.1 HR2.out).1
          have hr9R : Rd W9 R t (k + 2 * i + 1 + 1) := (hg9.block R (by omega) (fun e => HU.out e.symm)).trans ((HR2.out.later hb3).later hb4)
          have hB9 : But [R] w W9 := by
            have q := (HB2.out.later hb3).later hb4
            refine ⟨hg9.os.trans q.os, hg9.tape.trans q.tape, hg9.output.trans q.output, Nat.le_trans q.size hg9.size, fun j hj hjR => ?_⟩
            rw [hg9.block j (by omega) (fun e => by have := (HROW.out.lt j e.symm).1; omega)]
            exact q.block j hj hjR
          have HR9 := hid hr9
          have HRD9 := hid hr9R
          have HB9 := hid hB9
          clear hrow3 hb3 hW4 hb4 hL4 hr9 hg9 hr9R hB9 hs2 hs3 hs4 hR2 hown
          go_wp2_with (at_builtin; refine Lib.wpList_append_run _ rfl _ _ _ _ rfl _ _ rfl rfl _ _ (hrun _) ?_)
          go_roundg (n - (i + 1))
          case measure => omega
          case rel =>
            refine ⟨i + 1, by go_num, by omega, by omega, by omega, ?_, ?_, HB9.out⟩
            · rw [prs_len, prs_snoc, HX.out, HY.out]
              exact HR9.out
            · rw [show k + 2 * (i + 1) = k + 2 * i + 1 + 1 by omega]
              exact HRD9.out
        · have HB2 := hid (HB1.out.trans hb2)
          clear hb2 hown
          go_wp2
          exact ⟨rfl, Or.inr ⟨by omega, rfl, HB2.out⟩⟩
      · have HB1 := hid (HB.out.trans hb1)
        clear hb1 hown
        go_wp2
        exact ⟨rfl, Or.inr ⟨by omega, rfl, HB1.out⟩⟩
    · obtain rfl : i = n := by omega
      have HROW := hid hrow
      have HRD := hid hrd
      have HB := hid hb
      clear hrow hrd hb hown
      go_wp2
      go_ret
      obtain ⟨a, c, e, hr, hnw⟩ := own_pairs HROW.out (by rw [prs_len]; omega)
      rw [prs_len] at e hr
      refine Or.inl ⟨hki, a, c, ?_, hr, fun b off e2 => (hnw b off e2).1, HRD.out, HB.out⟩
      show Ending.returned u7 = _
      rw [e]
set_option maxRecDepth 100000 in
set_option maxHeartbeats 1000000 in
theorem joinRun_any (w : World) (a b : Int) :
    Calls Tryz.prog 119 #[.int .i64 a, .int .i64 b] w fun e w' => e = .returned (.agg #[.int .i64 a, .int .i64 b]) ∧ Below w.heap.size w w' := by
  obtain ⟨S, hS⟩ : ∃ S, w.heap.size = S := ⟨_, rfl⟩
  have HSS := hid hS
  go_enter Tryz.func119, Tryz.ntmps119
  go_wp2_with fail
  have h1 : (w.alloc (.cells #[.int .i64 a, .int .i64 b] 55)).heap[S]? = some (.cells #[.int .i64 a, .int .i64 b] 55 (0, 0)) := by rw [← HSS.out]; exact heap_alloc_new w _
  refine bodyPost_ret (v := .agg #[.int .i64 a, .int .i64 b]) (results_cell_row Tryz.results119 _ _ S 55 #[.int .i64 a, .int .i64 b] (0, 0) _ rfl h1 Tryz.underlying55 rfl (by kernel_rfl)) rfl ⟨rfl, ?_⟩
  exact (Below.refl _ _).alloc (Nat.le_refl _) _
theorem putRun_row (w : World) (B : Nat) (v : Value) (l : RunL) (h : w.ownsRow B 55 2 v l.length (cellsOf l)) (a b : Int) (gL : Nat) (hL : w.heap[gL]? = some (.cells #[.int .i64 a, .int .i64 b] 55 (0, 0))) (hl : l.length ≤ 1000) (hB : B ≤ w.heap.size) :
    ∃ g k w', (∀ ty, (Builtin.append_ #[25, 25] ty #[v, .slice (some ⟨gL, 0, none⟩) 1 1]).run Tryz.prog w = .ok (.slice (some ⟨g, 0, none⟩) (l.length + 1) k) w') ∧ w'.ownsRow B 55 2 (.slice (some ⟨g, 0, none⟩) (l.length + 1) k) (l.length + 1) (cellsOf (l ++ [(a, b)])) ∧ w.grownBy w' v.ownBlock := by
  obtain ⟨i0, hi, e⟩ := Option.map_eq_some_iff.1 (show (Tryz.prog.info? 55).map (fun i => (i.zero, i.size, i.bytes)) = some (some (.agg #[.int .i64 0, .int .i64 0]), 2, 16) from by kernel_rfl)
  simp only [Prod.mk.injEq] at e
  obtain ⟨e1, e2, e3⟩ := e
  obtain ⟨g, k, w', h1, h2, h3, h4, h5⟩ := run_append_lies w 25 0 B 55 i0 _ 2 16 Tryz.underlying25 hi e1 e2 e3 (by rfl) (by omega) v l.length _ h ⟨gL, 0, none⟩ 1 1 [.int .i64 a, .int .i64 b] (by simp)
    (fun j u hu => by rw [Addr.add_lit, Nat.zero_add, cell_of_row w gL j _ _ _ hL]; simpa using hu) (fun u hu => by
      simp only [List.mem_cons, List.not_mem_nil, or_false] at hu
      rcases hu with rfl | rfl <;> rfl) (by omega) (by simp only [maxLen]; omega) (by omega) hB w.heap.size rfl
  exact ⟨g, k, w', fun ty => h1, by rw [cellsOf_snoc]; exact h2, h3⟩
set_option maxRecDepth 100000 in
set_option maxHeartbeats 4000000 in
theorem listRun_any (w : World) (R : Nat) (t : ByteArray) (k n : Nat) (h : Rd w R t k) (ht : t.size ≤ 4096) (v : Value) (hv : Told w v) (hR : 0 < R) (hn : n ≤ 255) (hk : k ≤ t.size) :
    Calls Tryz.prog 118 #[.int .i64 (n : Int), .func (.func 74) #[.pointer (some ⟨R, 0, none⟩)] #[], .func (.func 119) #[] #[]] w fun e w' =>
      (k + 2 * n ≤ t.size ∧ ∃ a c, e = .returned (.slice a n c) ∧ RunsIn w' a n c (prs t k n) ∧ (∀ b off, a = some ⟨b, off, none⟩ → w.heap.size ≤ b) ∧ Rd w' R t (k + 2 * n) ∧ But [R] w w') ∨
      (t.size < k + 2 * n ∧ e = .panicked [{ v := v, recovered := false }] ∧ But [R] w w') := by
  have hRw : R < w.heap.size := (Array.getElem?_eq_some_iff.1 h).1
  have HR0 := hid h
  have HV := hid hv
  clear h hv
  go_enter Tryz.func118, Tryz.ntmps118
  go_wp2_with fail
  go_loopg [7, 11] n (fun gk (u p : Value) wr => ∃ i : Nat, p = .int .i64 i ∧ i ≤ n ∧ gk = n - i ∧ k + 2 * i ≤ t.size ∧ wr.ownsRow w.heap.size 55 2 u (prs t k i).length (cellsOf (prs t k i)) ∧ Rd wr R t (k + 2 * i) ∧ But [R] w wr)
  case atStart => exact ⟨0, rfl, by omega, by omega, by omega, World.ownsRow_nil _ _ _ _, HR0.out, But.refl _ _⟩
  case round =>
    obtain ⟨i, rfl, hi, rfl, hki, hrow, hrd, hb⟩ := hrel
    have hown : ∀ {u : Value} {xs : List Value} {m : Nat} {wx : World}, wx.ownsRow w.heap.size 55 2 u m xs → u.ownBlock ≠ some R := fun hx e => by have := (hx.lt R e).1; omega
    by_cases hlt : i < n
    · have hlt' : (i : Int) < n := by omega
      have K1 := hid (number_any wr R t (k + 2 * i) hrd ht v (HV.out.but hR hb))
      have HROW := hid hrow
      have HB := hid hb
      have hu := hown hrow
      have HU := hid hu
      clear hrow hrd hb hu
      go_wp2_with fail
      refine K1.out.mono ?_
      rintro e w1 (⟨h1, rfl, hr1, hb1⟩ | ⟨h1, rfl, hb1⟩)
      · have hB1 := HB.out.trans hb1
        have K2 := hid (number_any w1 R t (k + 2 * i + 1) hr1 ht v (HV.out.but hR hB1))
        have HROW1 := hid (row_but HROW.out hb1 HU.out)
        have HB1 := hid hB1
        obtain ⟨x, hx⟩ : ∃ x, byt t (k + 2 * i) = x := ⟨_, rfl⟩
        rw [hx]
        have HX := hid hx
        clear hr1 hb1 hB1 hx
        go_wp2_with fail
        refine K2.out.mono ?_
        rintro e w2 (⟨h2, rfl, hr2, hb2⟩ | ⟨h2, rfl, hb2⟩)
        · have HB2 := hid (HB1.out.trans hb2)
          have HROW2 := hid (row_but HROW1.out hb2 HU.out)
          have HR2 := hid hr2
          obtain ⟨y, hy⟩ : ∃ y, byt t (k + 2 * i + 1) = y := ⟨_, rfl⟩
          rw [hy]
          have HY := hid hy
          have K3 := hid (joinRun_any w2 x y)
          clear hr2 hb2 hy
          go_wp2_with fail
          refine K3.out.mono ?_
          rintro e w3 ⟨rfl, hb3⟩
          have hrow3 := ownsRow_later HROW2.out hb3
          obtain ⟨W4, hW4⟩ : ∃ W4, W4 = w3.alloc (.cells #[.int .i64 x, .int .i64 y] 55) := ⟨_, rfl⟩
          have hb4 : Below w3.heap.size w3 W4 := by rw [hW4]; exact (Below.refl _ _).alloc (Nat.le_refl _) _
          have hL4 : W4.heap[w3.heap.size]? = some (.cells #[.int .i64 x, .int .i64 y] 55 (0, 0)) := by rw [hW4]; exact heap_alloc_new w3 _
          have hs2 := HB2.out.size
          have hs3 := hb3.size
          have hs4 := hb4.size
          obtain ⟨g, c9, W9, hrun, hr9, hg9⟩ := putRun_row W4 w.heap.size _ _ (ownsRow_later hrow3 hb4) x y w3.heap.size hL4 (by rw [prs_len]; omega) (by omega)
          rw [prs_len] at hrun hr9
          rw [hW4] at hrun
          have hR2 : R < w2.heap.size := (Array.getElem?_eq_some_iff.1 HR2.out).1
          have hr9R : Rd W9 R t (k + 2 * i + 1 + 1) := (hg9.block R (by omega) (fun e => HU.out e.symm)).trans ((HR2.out.later hb3).later hb4)
          have hB9 : But [R] w W9 := by
            have q := (HB2.out.later hb3).later hb4
            refine ⟨hg9.os.trans q.os, hg9.tape.trans q.tape, hg9.output.trans q.output, Nat.le_trans q.size hg9.size, fun j hj hjR => ?_⟩
            rw [hg9.block j (by omega) (fun e => by have := (HROW.out.lt j e.symm).1; omega)]
            exact q.block j hj hjR
          have HR9 := hid hr9
          have HRD9 := hid hr9R
          have HB9 := hid hB9
          clear hrow3 hb3 hW4 hb4 hL4 hr9 hg9 hr9R hB9 hs2 hs3 hs4 hR2 hown
          go_wp2_with (at_builtin; refine Lib.wpList_append_run _ rfl _ _ _ _ rfl _ _ rfl rfl _ _ (hrun _) ?_)
          go_roundg (n - (i + 1))
          case measure => omega
          case rel =>
            refine ⟨i + 1, by go_num, by omega, by omega, by omega, ?_, ?_, HB9.out⟩
            · rw [prs_len, prs_snoc, HX.out, HY.out]
              exact HR9.out
            · rw [show k + 2 * (i + 1) = k + 2 * i + 1 + 1 by omega]
              exact HRD9.out
        · have HB2 := hid (HB1.out.trans hb2)
          clear hb2 hown
          go_wp2
          exact ⟨rfl, Or.inr ⟨by omega, rfl, HB2.out⟩⟩
      · have HB1 := hid (HB.out.trans hb1)
        clear hb1 hown
        go_wp2
        exact ⟨rfl, Or.inr ⟨by omega, rfl, HB1.out⟩⟩
    · obtain rfl : i = n := by omega
      have HROW := hid hrow
      have HRD := hid hrd
      have HB := hid hb
      clear hrow hrd hb hown
      go_wp2
      go_ret
      obtain ⟨a, c, e, hr, hnw⟩ := own_pairs HROW.out (by rw [prs_len]; omega)
      rw [prs_len] at e hr
      refine Or.inl ⟨hki, a, c, ?_, hr, fun b off e2 => (hnw b off e2).1, HRD.out, HB.out⟩
      show Ending.returned u7 = _
      rw [e]
end Go.Proofs.YtckpdfkobdgjeaaGreatDoor
namespace Go.Proofs.YtckpdfkobdgjeaaGreatDoor
open Go.RowKit
set_option maxRecDepth 100000 in
set_option maxHeartbeats 1000000 in
theorem PairsPieces_any (w : World) (R : Nat) (t : ByteArray) (k n : Nat) (h : Rd w R t k) (ht : t.size ≤ 4096) (v : Value) (hv : Told w v) (hR : 0 < R) (hn : n ≤ 255) (hk : k ≤ t.size) :
    Calls Tryz.prog 75 #[.int .i64 (n : Int), .func (.func 74) #[.pointer (some ⟨R, 0, none⟩)] #[]] w fun e w' =>
      (k + 2 * n ≤ t.size ∧ ∃ a c, e = .returned (.slice a n c) ∧ RunsIn w' a n c (prs t k n) ∧ (∀ b off, a = some ⟨b, off, none⟩ → w.heap.size ≤ b) ∧ Rd w' R t (k + 2 * n) ∧ But [R] w w') ∨
      (t.size < k + 2 * n ∧ e = .panicked [{ v := v, recovered := false }] ∧ But [R] w w') := by
  have K := hid (listPiece_any w R t k n h ht v hv hR hn hk)
  clear h hv
  go_enter Tryz.func75, Tryz.ntmps75
  go_wp2_with fail
  refine K.out.mono ?_
  rintro e w1 (⟨h1, a, c, rfl, h2⟩ | ⟨h1, rfl, h2⟩)
  · have H2 := hid h2
    clear h2
    go_wp2
    go_ret
    exact Or.inl ⟨h1, a, c, rfl, H2.out⟩
  · have H2 := hid h2
    clear h2
    go_wp2
    exact ⟨rfl, Or.inr ⟨h1, rfl, H2.out⟩⟩
set_option maxRecDepth 100000 in
set_option maxHeartbeats 1000000 in
theorem PairsRuns_any (w : World) (R : Nat) (t : ByteArray) (k n : Nat) (h : Rd w R t k) (ht : t.size ≤ 4096) (v : Value) (hv : Told w v) (hR : 0 < R) (hn : n ≤ 255) (hk : k ≤ t.size) :
    Calls Tryz.prog 77 #[.int .i64 (n : Int), .func (.func 74) #[.pointer (some ⟨R, 0, none⟩)] #[]] w fun e w' =>
      (k + 2 * n ≤ t.size ∧ ∃ a c, e = .returned (.slice a n c) ∧ RunsIn w' a n c (prs t k n) ∧ (∀ b off, a = some ⟨b, off, none⟩ → w.heap.size ≤ b) ∧ Rd w' R t (k + 2 * n) ∧ But [R] w w') ∨
      (t.size < k + 2 * n ∧ e = .panicked [{ v := v, recovered := false }] ∧ But [R] w w') := by
  have K := hid (listRun_any w R t k n h ht v hv hR hn hk)
  clear h hv
  go_enter Tryz.func77, Tryz.ntmps77
  go_wp2_with fail
  refine K.out.mono ?_
  rintro e w1 (⟨h1, a, c, rfl, h2⟩ | ⟨h1, rfl, h2⟩)
  · have H2 := hid h2
    clear h2
    go_wp2
    go_ret
    exact Or.inl ⟨h1, a, c, rfl, H2.out⟩
  · have H2 := hid h2
    clear h2
    go_wp2
    exact ⟨rfl, Or.inr ⟨h1, rfl, H2.out⟩⟩
theorem catch_idle (p q : Addr) (w : World) :
    CallsD Tryz.prog 73 #[.pointer (some p), .pointer (some q)] .returning w fun e u' w' => e = .returned (.tuple #[]) ∧ u' = .returning ∧ w' = w := by
  have hne : ∀ W : World, (binOp .neq 20 .nilIface .nilIface).run Tryz.prog W = .ok (.bool false) W := fun W => by kernel_rfl
  refine callsD_of_wpS Tryz.func73 rfl fun c₀ cs hu => ?_
  apply wpS_seq
  apply wpS_region
  simp [wpOpsS, go_sem, recoverD, hu, Tryz.ntmps73, Exit.thenS, hne]
  refine wpS_cond (t := false) (by simp [Act.eval, Array.replicate]) ?_
  simp only [Bool.false_eq_true, if_false]
  refine wpS_of_wp (wp_skip ?_)
  cases c₀
  simp_all [bodyPostS, results, Tryz.results73]
def AcBox (w : World) (A : Nat) (c0 c1 c2 c3 c4 c5 c6 c7 : Value) : Prop := w.heap[A]? = some (.cells #[c0, c1, c2, c3, c4, c5, c6, c7] 27 (0, 0))
theorem eight_stores (w : World) (A : Nat) (x0 x1 x2 x3 x4 x5 x6 x7 a b c d e f g h : Value) (hx : AcBox w A x0 x1 x2 x3 x4 x5 x6 x7) :
    AcBox ((((((((w.setCell ⟨A, 0, none⟩ a).setCell ⟨A, 1, none⟩ b).setCell ⟨A, 2, none⟩ c).setCell ⟨A, 3, none⟩ d).setCell ⟨A, 4, none⟩ e).setCell ⟨A, 5, none⟩ f).setCell ⟨A, 6, none⟩ g).setCell ⟨A, 7, none⟩ h) A a b c d e f g h ∧
    ∀ k, k ≠ A → ((((((((w.setCell ⟨A, 0, none⟩ a).setCell ⟨A, 1, none⟩ b).setCell ⟨A, 2, none⟩ c).setCell ⟨A, 3, none⟩ d).setCell ⟨A, 4, none⟩ e).setCell ⟨A, 5, none⟩ f).setCell ⟨A, 6, none⟩ g).setCell ⟨A, 7, none⟩ h).heap[k]? = w.heap[k]? := by
  unfold AcBox at hx ⊢
  have h0 : (w.setCell ⟨A, 0, none⟩ a).heap[A]? = some (.cells #[a, x1, x2, x3, x4, x5, x6, x7] 27 (0, 0)) := heap_setCell_same _ A 0 _ _ a hx
  have h1 : ((w.setCell ⟨A, 0, none⟩ a).setCell ⟨A, 1, none⟩ b).heap[A]? = some (.cells #[a, b, x2, x3, x4, x5, x6, x7] 27 (0, 0)) := heap_setCell_same _ A 1 _ _ b h0
  have h2 : (((w.setCell ⟨A, 0, none⟩ a).setCell ⟨A, 1, none⟩ b).setCell ⟨A, 2, none⟩ c).heap[A]? = some (.cells #[a, b, c, x3, x4, x5, x6, x7] 27 (0, 0)) := heap_setCell_same _ A 2 _ _ c h1
  have h3 : ((((w.setCell ⟨A, 0, none⟩ a).setCell ⟨A, 1, none⟩ b).setCell ⟨A, 2, none⟩ c).setCell ⟨A, 3, none⟩ d).heap[A]? = some (.cells #[a, b, c, d, x4, x5, x6, x7] 27 (0, 0)) := heap_setCell_same _ A 3 _ _ d h2
  have h4 : (((((w.setCell ⟨A, 0, none⟩ a).setCell ⟨A, 1, none⟩ b).setCell ⟨A, 2, none⟩ c).setCell ⟨A, 3, none⟩ d).setCell ⟨A, 4, none⟩ e).heap[A]? = some (.cells #[a, b, c, d, e, x5, x6, x7] 27 (0, 0)) := heap_setCell_same _ A 4 _ _ e h3
  have h5 : ((((((w.setCell ⟨A, 0, none⟩ a).setCell ⟨A, 1, none⟩ b).setCell ⟨A, 2, none⟩ c).setCell ⟨A, 3, none⟩ d).setCell ⟨A, 4, none⟩ e).setCell ⟨A, 5, none⟩ f).heap[A]? = some (.cells #[a, b, c, d, e, f, x6, x7] 27 (0, 0)) := heap_setCell_same _ A 5 _ _ f h4
  have h6 : (((((((w.setCell ⟨A, 0, none⟩ a).setCell ⟨A, 1, none⟩ b).setCell ⟨A, 2, none⟩ c).setCell ⟨A, 3, none⟩ d).setCell ⟨A, 4, none⟩ e).setCell ⟨A, 5, none⟩ f).setCell ⟨A, 6, none⟩ g).heap[A]? = some (.cells #[a, b, c, d, e, f, g, x7] 27 (0, 0)) := heap_setCell_same _ A 6 _ _ g h5
  have h7 : ((((((((w.setCell ⟨A, 0, none⟩ a).setCell ⟨A, 1, none⟩ b).setCell ⟨A, 2, none⟩ c).setCell ⟨A, 3, none⟩ d).setCell ⟨A, 4, none⟩ e).setCell ⟨A, 5, none⟩ f).setCell ⟨A, 6, none⟩ g).setCell ⟨A, 7, none⟩ h).heap[A]? = some (.cells #[a, b, c, d, e, f, g, h] 27 (0, 0)) := heap_setCell_same _ A 7 _ _ h h6
  refine ⟨h7, fun k hk => ?_⟩
  rw [heap_setCell_other _ ⟨A, 7, none⟩ k _ hk, heap_setCell_other _ ⟨A, 6, none⟩ k _ hk, heap_setCell_other _ ⟨A, 5, none⟩ k _ hk, heap_setCell_other _ ⟨A, 4, none⟩ k _ hk, heap_setCell_other _ ⟨A, 3, none⟩ k _ hk, heap_setCell_other _ ⟨A, 2, none⟩ k _ hk, heap_setCell_other _ ⟨A, 1, none⟩ k _ hk, heap_setCell_other _ ⟨A, 0, none⟩ k _ hk]
theorem AcBox.cells {w : World} {A : Nat} {c0 c1 c2 c3 c4 c5 c6 c7 : Value} (h : AcBox w A c0 c1 c2 c3 c4 c5 c6 c7) : w.cell? ⟨A, 0, none⟩ = some c0 ∧ w.cell? ⟨A, 1, none⟩ = some c1 ∧ w.cell? ⟨A, 2, none⟩ = some c2 ∧ w.cell? ⟨A, 3, none⟩ = some c3 ∧ w.cell? ⟨A, 4, none⟩ = some c4 ∧ w.cell? ⟨A, 5, none⟩ = some c5 ∧ w.cell? ⟨A, 6, none⟩ = some c6 ∧ w.cell? ⟨A, 7, none⟩ = some c7 := by
  unfold AcBox at h
  refine ⟨?_, ?_, ?_, ?_, ?_, ?_, ?_, ?_⟩ <;> (rw [cell_of_row w A _ _ _ _ h]; rfl)
set_option maxRecDepth 100000 in
set_option maxHeartbeats 1000000 in
theorem catch_panicking (A : Nat) (T : TypeId) (pv : Value) (older : List PanicEntry) (w : World) (c0 c1 c2 c3 c4 c5 c6 c7 : Value) (x : Bool) (hA : AcBox w A c0 c1 c2 c3 c4 c5 c6 c7) (hB : w.heap[A + 1]? = some (.cells #[.bool x] 4 (0, 0))) :
    CallsD Tryz.prog 73 #[.pointer (some ⟨A, 0, none⟩), .pointer (some ⟨A + 1, 0, none⟩)] (.panicking ({ v := .iface T pv, recovered := false } :: older)) w fun e u' w' => e = .returned (.tuple #[]) ∧ u' = .panicking ({ v := .iface T pv, recovered := true } :: older) ∧ AcBox w' A (.int .i64 0) (.int .i64 0) (.int .i64 0) (.int .i64 0) (.int .i64 0) (.int .i64 0) (.slice none 0 0) (.slice none 0 0) ∧ w'.heap[A + 1]? = some (.cells #[.bool false] 4 (0, 0)) ∧ But [A, A + 1] w w' := by
  have hne : ∀ (W : World), (binOp .neq 20 (.iface T pv) .nilIface).run Tryz.prog W = .ok (.bool true) W := fun W => by kernel_rfl
  obtain ⟨a0, a1, a2, a3, a4, a5, a6, a7⟩ := hA.cells
  have af : ∀ m, w.frozen? ⟨A, m, none⟩ = false := fun m => frozen_of_row w A m _ _ hA
  have b0 : w.cell? ⟨A + 1, 0, none⟩ = some (.bool x) := by rw [cell_of_row w (A + 1) 0 _ _ _ hB]; rfl
  have bf : w.frozen? ⟨A + 1, 0, none⟩ = false := frozen_of_row w (A + 1) 0 _ _ hB
  obtain ⟨hst1, hst2⟩ := eight_stores w A c0 c1 c2 c3 c4 c5 c6 c7 (.int .i64 0) (.int .i64 0) (.int .i64 0) (.int .i64 0) (.int .i64 0) (.int .i64 0) (.slice none 0 0) (.slice none 0 0) hA
  refine callsD_of_wpS Tryz.func73 rfl fun c₀ cs hu => ?_
  apply wpS_seq
  apply wpS_region
  simp [wpOpsS, go_sem, recoverD, hu, Tryz.ntmps73, Exit.thenS, hne]
  refine wpS_cond (t := true) (by simp [Act.eval, Array.replicate]) ?_
  simp only [if_true]
  apply wpS_region
  simp [wpOpsS, go_sem, a0, a1, a2, a3, a4, a5, a6, a7, af, b0, bf, bodyPostS, results, Tryz.results73]
  obtain ⟨W8, hW8⟩ : ∃ W8, W8 = ((((((((w.setCell ⟨A, 0, none⟩ (.int .i64 0)).setCell ⟨A, 1, none⟩ (.int .i64 0)).setCell ⟨A, 2, none⟩ (.int .i64 0)).setCell ⟨A, 3, none⟩ (.int .i64 0)).setCell ⟨A, 4, none⟩ (.int .i64 0)).setCell ⟨A, 5, none⟩ (.int .i64 0)).setCell ⟨A, 6, none⟩ (.slice none 0 0)).setCell ⟨A, 7, none⟩ (.slice none 0 0)) := ⟨_, rfl⟩
  have hb8 : But [A, A + 1] w W8 := by
    rw [hW8]
    have m : A ∈ [A, A + 1] := by simp
    exact (((((((But.set (p := ⟨A, 0, none⟩) m _).trans (But.set (p := ⟨A, 1, none⟩) m _)).trans (But.set (p := ⟨A, 2, none⟩) m _)).trans (But.set (p := ⟨A, 3, none⟩) m _)).trans (But.set (p := ⟨A, 4, none⟩) m _)).trans (But.set (p := ⟨A, 5, none⟩) m _)).trans (But.set (p := ⟨A, 6, none⟩) m _)).trans (But.set (p := ⟨A, 7, none⟩) m _)
  rw [← hW8] at hst1 hst2 ⊢
  have hB8 : W8.heap[A + 1]? = some (.cells #[.bool x] 4 (0, 0)) := (hst2 (A + 1) (by omega)).trans hB
  exact ⟨(heap_setCell_other W8 ⟨A + 1, 0, none⟩ A _ (by simp)).trans hst1, heap_setCell_same W8 (A + 1) 0 _ _ (.bool false) hB8, hb8.trans (But.set (p := ⟨A + 1, 0, none⟩) (by simp) _)⟩
end Go.Proofs.YtckpdfkobdgjeaaGreatDoor
namespace Go.Proofs.YtckpdfkobdgjeaaGreatDoor
open Go.RowKit
def pN (t : ByteArray) (k : Nat) : Nat := (byt t (k + 6)).toNat
def pA (t : ByteArray) (k : Nat) : Nat := k + 7 + 2 * pN t k
def cN (t : ByteArray) (k : Nat) : Nat := (byt t (pA t k)).toNat
def endAt (t : ByteArray) (k : Nat) : Nat := pA t k + 1 + 2 * cN t k
def whole (t : ByteArray) (k : Nat) : Prop := k + 6 < t.size ∧ byt t (k + 6) ≤ 3 ∧ pA t k < t.size ∧ byt t (pA t k) ≤ 48 ∧ endAt t k ≤ t.size
instance (t : ByteArray) (k : Nat) : Decidable (whole t k) := by unfold whole; infer_instance
theorem But.newSet {ks : List Nat} {w w' : World} (h : But ks w w') {p : Addr} (hp : w.heap.size ≤ p.block) (v : Value) : But ks w (w'.setCell p v) :=
  ⟨h.os, h.tape, h.output, by have := h.size; simp only [World.setCell, Array.size_modify]; omega, fun k hk hn => by rw [heap_setCell_other w' p k _ (by omega)]; exact h.block k hk hn⟩
theorem But.grow {ks : List Nat} {w w' w'' : World} (h : But ks w w') {js : List Nat} (hj : ∀ j ∈ js, w.heap.size ≤ j) (h2 : But js w' w'') : But ks w w'' :=
  ⟨h2.os.trans h.os, h2.tape.trans h.tape, h2.output.trans h.output, Nat.le_trans h.size h2.size, fun k hk hn => by
    have := h.size
    rw [h2.block k (by omega) (fun e => by have := hj k e; omega)]
    exact h.block k hk hn⟩
theorem results_act {tmps : Array Value} (w : World) (A : Nat) (c0 c1 c2 c3 c4 c5 c6 c7 : Value) (x : Bool) (h2 : tmps.getD 2 undef = .pointer (some ⟨A, 0, none⟩)) (h3 : tmps.getD 3 undef = .pointer (some ⟨A + 1, 0, none⟩)) (hA : AcBox w A c0 c1 c2 c3 c4 c5 c6 c7) (hB : w.heap[A + 1]? = some (.cells #[.bool x] 4 (0, 0))) :
    (results Tryz.f34 tmps).run Tryz.prog w = .ok (.tuple #[.agg #[c0, c1, c2, c3, c4, c5, c6, c7], .bool x]) w := by
  have e2 : tmps[2]?.getD undef = .pointer (some ⟨A, 0, none⟩) := by simpa using h2
  have e3 : tmps[3]?.getD undef = .pointer (some ⟨A + 1, 0, none⟩) := by simpa using h3
  have l1 := run_loadVar_row (P := Tryz.prog) w A 27 27 #[c0, c1, c2, c3, c4, c5, c6, c7] (0, 0) _ hA Tryz.underlying27 rfl (by kernel_rfl)
  have b0 : w.cell? ⟨A + 1, 0, none⟩ = some (.bool x) := by rw [cell_of_row w (A + 1) 0 _ _ _ hB]; rfl
  have l2 : (loadVar 4 ⟨A + 1, 0, none⟩).run Tryz.prog w = .ok (.bool x) w := by
    simp [loadVar, isAgg, run_underlying Tryz.underlying4, go_sem, b0]
  simp [results, Tryz.results34, e2, e3, asAddr, l1, l2, Result.andThen]
end Go.Proofs.YtckpdfkobdgjeaaGreatDoor
namespace Go.Proofs.YtckpdfkobdgjeaaGreatDoor
open Go.RowKit
theorem alloc_one (w : World) (o : Obj) : (w.alloc o).heap.size = w.heap.size + 1 := World.size_alloc w o
structure As (w W : World) (S R : Nat) (v : Value) (c0 c1 c2 c3 c4 c5 c6 c7 : Value) : Prop where
  box : AcBox W S c0 c1 c2 c3 c4 c5 c6 c7
  is : W.heap[S + 1]? = some (.cells #[.bool false] 4 (0, 0))
  but : But [R] w W
  told : Told W v
theorem As.call {w W W1 : World} {S R : Nat} {v c0 c1 c2 c3 c4 c5 c6 c7 : Value} (a : As w W S R v c0 c1 c2 c3 c4 c5 c6 c7) (hb : But [R] W W1) (hR : 0 < R) (hRS : R < S) : As w W1 S R v c0 c1 c2 c3 c4 c5 c6 c7 := by
  have hs : S + 1 < W.heap.size := (Array.getElem?_eq_some_iff.1 a.is).1
  refine ⟨(hb.block S (by omega) (fun e => by have := List.mem_singleton.1 e; omega)).trans a.box, (hb.block (S + 1) (by omega) (fun e => by have := List.mem_singleton.1 e; omega)).trans a.is, a.but.trans hb, a.told.but hR hb⟩
theorem As.set {w W : World} {S R : Nat} {v c0 c1 c2 c3 c4 c5 c6 c7 : Value} (a : As w W S R v c0 c1 c2 c3 c4 c5 c6 c7) (hS : w.heap.size = S) (hS0 : 0 < S) (i : Nat) (x : Value) (d : Array Value) (hd : #[c0, c1, c2, c3, c4, c5, c6, c7].setIfInBounds i x = d) :
    (W.setCell ⟨S, i, none⟩ x).heap[S]? = some (.cells d 27 (0, 0)) ∧ (W.setCell ⟨S, i, none⟩ x).heap[S + 1]? = some (.cells #[.bool false] 4 (0, 0)) ∧ But [R] w (W.setCell ⟨S, i, none⟩ x) ∧ Told (W.setCell ⟨S, i, none⟩ x) v := by
  subst hd
  refine ⟨heap_setCell_same W S i _ _ x a.box, (heap_setCell_other W ⟨S, i, none⟩ (S + 1) _ (by simp)).trans a.is, a.but.newSet (by show w.heap.size ≤ S; omega) x, ?_, a.told.2⟩
  rw [World.cell?_of_block (w := W) (heap_setCell_other W ⟨S, i, none⟩ 0 _ (by show 0 ≠ S; omega))]
  exact a.told.1
theorem act_panic (w W : World) (S R : Nat) (v c0 c1 c2 c3 c4 c5 c6 c7 : Value) (a : As w W S R v c0 c1 c2 c3 c4 c5 c6 c7) (hS : w.heap.size = S) (tmps : Array Value) (h2 : tmps.getD 2 undef = .pointer (some ⟨S, 0, none⟩)) (h3 : tmps.getD 3 undef = .pointer (some ⟨S + 1, 0, none⟩)) (Q : Ending → World → Prop)
    (hq : ∀ w', But [R] w w' → Q (.returned (.tuple #[.agg #[.int .i64 0, .int .i64 0, .int .i64 0, .int .i64 0, .int .i64 0, .int .i64 0, .slice none 0 0, .slice none 0 0], .bool false])) w') :
    Leaves Tryz.prog Tryz.f34 tmps Q [{ target := .fn (.func 73) #[.pointer (some ⟨S, 0, none⟩), .pointer (some ⟨S + 1, 0, none⟩)], args := #[] }] (.panicking [{ v := v, recovered := false }]) W := by
  obtain ⟨T, u, rfl⟩ := a.told.2
  refine leaves_cons (f := 73) (args := #[.pointer (some ⟨S, 0, none⟩), .pointer (some ⟨S + 1, 0, none⟩)]) (by simp) (by simp [go_sem]) ?_
  refine (catch_panicking S T u [] W c0 c1 c2 c3 c4 c5 c6 c7 false a.box a.is).mono ?_
  rintro e u' w' ⟨rfl, rfl, hA, hB, hb⟩
  have hr := results_act (tmps := tmps) w' S _ _ _ _ _ _ _ _ _ h2 h3 hA hB
  simp only [settle]
  exact ⟨_, hr, hq w' (a.but.grow (fun j hj => by
    simp only [List.mem_cons, List.not_mem_nil, or_false] at hj
    omega) hb)⟩
theorem act_return (W : World) (S : Nat) (c0 c1 c2 c3 c4 c5 c6 c7 : Value) (hA : AcBox W S c0 c1 c2 c3 c4 c5 c6 c7) (hB : W.heap[S + 1]? = some (.cells #[.bool true] 4 (0, 0))) (tmps : Array Value) (h2 : tmps.getD 2 undef = .pointer (some ⟨S, 0, none⟩)) (h3 : tmps.getD 3 undef = .pointer (some ⟨S + 1, 0, none⟩)) (Q : Ending → World → Prop)
    (hq : Q (.returned (.tuple #[.agg #[c0, c1, c2, c3, c4, c5, c6, c7], .bool true])) W) :
    Leaves Tryz.prog Tryz.f34 tmps Q [{ target := .fn (.func 73) #[.pointer (some ⟨S, 0, none⟩), .pointer (some ⟨S + 1, 0, none⟩)], args := #[] }] .returning W := by
  refine leaves_cons (f := 73) (args := #[.pointer (some ⟨S, 0, none⟩), .pointer (some ⟨S + 1, 0, none⟩)]) (by simp) (by simp [go_sem]) ?_
  refine (catch_idle _ _ W).mono ?_
  rintro e u' w' ⟨rfl, rfl, rfl⟩
  exact ⟨_, results_act (tmps := tmps) w' S _ _ _ _ _ _ _ _ _ h2 h3 hA hB, hq⟩
theorem RunsIn.but {w w' : World} {R : Nat} {a : Option Addr} {n cap : Nat} {l : RunL} (h : RunsIn w a n cap l) (hb : But [R] w w') (hR : ∀ b off, a = some ⟨b, off, none⟩ → b ≠ R) : RunsIn w' a n cap l :=
  h.of_away fun hp b off e => hb.block b (h.lt hp e) (fun e2 => hR b off e (List.mem_singleton.1 e2))
set_option maxRecDepth 100000 in
set_option maxHeartbeats 4000000 in
theorem act_any (w : World) (R : Nat) (t : ByteArray) (k : Nat) (h : Rd w R t k) (ht : t.size ≤ 4096) (v : Value) (hv : Told w v) (hR : 0 < R) (hk : k ≤ t.size) :
    Calls Tryz.prog 34 #[.pointer (some ⟨R, 0, none⟩)] w fun e w' =>
      (whole t k ∧ ∃ pa pc ca cc, e = .returned (.tuple #[.agg #[.int .i64 (byt t k), .int .i64 (byt t (k + 1)), .int .i64 (byt t (k + 2)), .int .i64 (byt t (k + 3)), .int .i64 (byt t (k + 4)), .int .i64 (byt t (k + 5)), .slice pa (pN t k) pc, .slice ca (cN t k) cc], .bool true]) ∧
        RunsIn w' pa (pN t k) pc (prs t (k + 7) (pN t k)) ∧ RunsIn w' ca (cN t k) cc (prs t (pA t k + 1) (cN t k)) ∧
        (∀ b off, pa = some ⟨b, off, none⟩ → w.heap.size ≤ b) ∧ (∀ b off, ca = some ⟨b, off, none⟩ → w.heap.size ≤ b) ∧ Rd w' R t (endAt t k) ∧ But [R] w w') ∨
      (¬ whole t k ∧ e = .returned (.tuple #[.agg #[.int .i64 0, .int .i64 0, .int .i64 0, .int .i64 0, .int .i64 0, .int .i64 0, .slice none 0 0, .slice none 0 0], .bool false]) ∧ But [R] w w') := by
  obtain ⟨S, hS⟩ : ∃ S, w.heap.size = S := ⟨_, rfl⟩
  have HSS := hid hS
  have hRw : R < S := by rw [← hS]; exact (Array.getElem?_eq_some_iff.1 h).1
  have HR0 := hid h
  have HV := hid hv
  clear h hv
  go_enter_defers Tryz.func34, Tryz.ntmps34
  go_wp2_with fail
  obtain ⟨W0, hW0⟩ : ∃ W0, W0 = ((w.alloc (.cells #[.int .i64 0, .int .i64 0, .int .i64 0, .int .i64 0, .int .i64 0, .int .i64 0, .slice none 0 0, .slice none 0 0] 27)).alloc (.cells #[.bool false] 4)) := ⟨_, rfl⟩
  rw [← hW0]
  have hz : (w.alloc (.cells #[.int .i64 0, .int .i64 0, .int .i64 0, .int .i64 0, .int .i64 0, .int .i64 0, .slice none 0 0, .slice none 0 0] 27)).heap.size = S + 1 := by rw [alloc_one, hS]
  have hbl : Below w.heap.size w W0 := by rw [hW0]; exact ((Below.refl _ _).alloc (Nat.le_refl _) _).alloc (by rw [alloc_one]; omega) _
  have aS : As w W0 S R v (.int .i64 0) (.int .i64 0) (.int .i64 0) (.int .i64 0) (.int .i64 0) (.int .i64 0) (.slice none 0 0) (.slice none 0 0) := by
    refine ⟨?_, ?_, But.below hbl, ?_, HV.out.2⟩
    · rw [hW0]
      show _ = some _
      rw [Below.heap_alloc _ _ S (by rw [hz]; omega), ← hS]
      exact heap_alloc_new w _
    · rw [hW0, ← hz]
      exact heap_alloc_new _ _
    · rw [World.cell?_of_block (w := w) (hbl.block 0 (by omega))]
      exact HV.out.1
  have rd : Rd W0 R t k := HR0.out.later hbl
  clear hW0 hz hbl
  refine (number_any W0 R t k rd ht v aS.told).mono ?_
  rintro e w0 (⟨hk0, rfl, hr, hb⟩ | ⟨hk0, rfl, hb⟩)
  rotate_left
  · have a1 := hid (aS.call hb hR hRw)
    clear aS rd hb
    go_wp2
    exact act_panic w w0 S R v _ _ _ _ _ _ _ _ a1.out HSS.out _ rfl rfl _ (fun w' hb => Or.inr ⟨fun hw => by have := hw.1; omega, rfl, hb⟩)
  have a1 := aS.call hb hR hRw
  obtain ⟨q0, q1, q2, q3, q4, q5, q6, q7⟩ := a1.box.cells
  have qf : ∀ m, w0.frozen? ⟨S, m, none⟩ = false := fun m => frozen_of_row w0 S m _ _ a1.box
  obtain ⟨y0, hy⟩ : ∃ y, byt t k = y := ⟨_, rfl⟩
  rw [hy]
  have Hy0 := hid hy
  have A1 := hid a1
  have HR1 := hid hr
  clear aS rd hb hr a1 hy
  go_wp2_with fail
  obtain ⟨s1, s2, s3, s4⟩ := A1.out.set HSS.out (by omega) 0 (.int .i64 y0) _ rfl
  have r2 : Rd (w0.setCell ⟨S, 0, none⟩ (.int .i64 y0)) R t (k + 1) := (heap_setCell_other w0 ⟨S, 0, none⟩ R _ (by show R ≠ S; omega)).trans HR1.out
  clear q0 q1 q2 q3 q4 q5 q6 q7 qf A1 HR1
  obtain ⟨W1, hW⟩ : ∃ W, W = w0.setCell ⟨S, 0, none⟩ (.int .i64 y0) := ⟨_, rfl⟩
  rw [← hW] at s1 s2 s3 s4 r2 ⊢
  clear hW
  have aS := As.mk s1 s2 s3 s4
  have rd := r2
  clear s1 s2 s3 s4 r2
  refine (number_any W1 R t (k + 1) rd ht v aS.told).mono ?_
  rintro e w1 (⟨hk1, rfl, hr, hb⟩ | ⟨hk1, rfl, hb⟩)
  rotate_left
  · have a1 := hid (aS.call hb hR hRw)
    clear aS rd hb
    go_wp2
    exact act_panic w w1 S R v _ _ _ _ _ _ _ _ a1.out HSS.out _ rfl rfl _ (fun w' hb => Or.inr ⟨fun hw => by have := hw.1; omega, rfl, hb⟩)
  have a1 := aS.call hb hR hRw
  obtain ⟨q0, q1, q2, q3, q4, q5, q6, q7⟩ := a1.box.cells
  have qf : ∀ m, w1.frozen? ⟨S, m, none⟩ = false := fun m => frozen_of_row w1 S m _ _ a1.box
  obtain ⟨y1, hy⟩ : ∃ y, byt t (k + 1) = y := ⟨_, rfl⟩
  rw [hy]
  have Hy1 := hid hy
  have A1 := hid a1
  have HR1 := hid hr
  clear aS rd hb hr a1 hy
  go_wp2_with fail
  obtain ⟨s1, s2, s3, s4⟩ := A1.out.set HSS.out (by omega) 1 (.int .i64 y1) _ rfl
  have r2 : Rd (w1.setCell ⟨S, 1, none⟩ (.int .i64 y1)) R t (k + 2) := (heap_setCell_other w1 ⟨S, 1, none⟩ R _ (by show R ≠ S; omega)).trans HR1.out
  clear q0 q1 q2 q3 q4 q5 q6 q7 qf A1 HR1
  obtain ⟨W2, hW⟩ : ∃ W, W = w1.setCell ⟨S, 1, none⟩ (.int .i64 y1) := ⟨_, rfl⟩
  rw [← hW] at s1 s2 s3 s4 r2 ⊢
  clear hW
  have aS := As.mk s1 s2 s3 s4
  have rd := r2
  clear s1 s2 s3 s4 r2
  refine (number_any W2 R t (k + 2) rd ht v aS.told).mono ?_
  rintro e w2 (⟨hk2, rfl, hr, hb⟩ | ⟨hk2, rfl, hb⟩)
  rotate_left
  · have a1 := hid (aS.call hb hR hRw)
    clear aS rd hb
    go_wp2
    exact act_panic w w2 S R v _ _ _ _ _ _ _ _ a1.out HSS.out _ rfl rfl _ (fun w' hb => Or.inr ⟨fun hw => by have := hw.1; omega, rfl, hb⟩)
  have a1 := aS.call hb hR hRw
  obtain ⟨q0, q1, q2, q3, q4, q5, q6, q7⟩ := a1.box.cells
  have qf : ∀ m, w2.frozen? ⟨S, m, none⟩ = false := fun m => frozen_of_row w2 S m _ _ a1.box
  obtain ⟨y2, hy⟩ : ∃ y, byt t (k + 2) = y := ⟨_, rfl⟩
  rw [hy]
  have Hy2 := hid hy
  have A1 := hid a1
  have HR1 := hid hr
  clear aS rd hb hr a1 hy
  go_wp2_with fail
  obtain ⟨s1, s2, s3, s4⟩ := A1.out.set HSS.out (by omega) 2 (.int .i64 y2) _ rfl
  have r2 : Rd (w2.setCell ⟨S, 2, none⟩ (.int .i64 y2)) R t (k + 3) := (heap_setCell_other w2 ⟨S, 2, none⟩ R _ (by show R ≠ S; omega)).trans HR1.out
  clear q0 q1 q2 q3 q4 q5 q6 q7 qf A1 HR1
  obtain ⟨W3, hW⟩ : ∃ W, W = w2.setCell ⟨S, 2, none⟩ (.int .i64 y2) := ⟨_, rfl⟩
  rw [← hW] at s1 s2 s3 s4 r2 ⊢
  clear hW
  have aS := As.mk s1 s2 s3 s4
  have rd := r2
  clear s1 s2 s3 s4 r2
  refine (number_any W3 R t (k + 3) rd ht v aS.told).mono ?_
  rintro e w3 (⟨hk3, rfl, hr, hb⟩ | ⟨hk3, rfl, hb⟩)
  rotate_left
  · have a1 := hid (aS.call hb hR hRw)
    clear aS rd hb
    go_wp2
    exact act_panic w w3 S R v _ _ _ _ _ _ _ _ a1.out HSS.out _ rfl rfl _ (fun w' hb => Or.inr ⟨fun hw => by have := hw.1; omega, rfl, hb⟩)
  have a1 := aS.call hb hR hRw
  obtain ⟨q0, q1, q2, q3, q4, q5, q6, q7⟩ := a1.box.cells
  have qf : ∀ m, w3.frozen? ⟨S, m, none⟩ = false := fun m => frozen_of_row w3 S m _ _ a1.box
  obtain ⟨y3, hy⟩ : ∃ y, byt t (k + 3) = y := ⟨_, rfl⟩
  rw [hy]
  have Hy3 := hid hy
  have A1 := hid a1
  have HR1 := hid hr
  clear aS rd hb hr a1 hy
  go_wp2_with fail
  obtain ⟨s1, s2, s3, s4⟩ := A1.out.set HSS.out (by omega) 3 (.int .i64 y3) _ rfl
  have r2 : Rd (w3.setCell ⟨S, 3, none⟩ (.int .i64 y3)) R t (k + 4) := (heap_setCell_other w3 ⟨S, 3, none⟩ R _ (by show R ≠ S; omega)).trans HR1.out
  clear q0 q1 q2 q3 q4 q5 q6 q7 qf A1 HR1
  obtain ⟨W4, hW⟩ : ∃ W, W = w3.setCell ⟨S, 3, none⟩ (.int .i64 y3) := ⟨_, rfl⟩
  rw [← hW] at s1 s2 s3 s4 r2 ⊢
  clear hW
  have aS := As.mk s1 s2 s3 s4
  have rd := r2
  clear s1 s2 s3 s4 r2
  refine (number_any W4 R t (k + 4) rd ht v aS.told).mono ?_
  rintro e w4 (⟨hk4, rfl, hr, hb⟩ | ⟨hk4, rfl, hb⟩)
  rotate_left
  · have a1 := hid (aS.call hb hR hRw)
    clear aS rd hb
    go_wp2
    exact act_panic w w4 S R v _ _ _ _ _ _ _ _ a1.out HSS.out _ rfl rfl _ (fun w' hb => Or.inr ⟨fun hw => by have := hw.1; omega, rfl, hb⟩)
  have a1 := aS.call hb hR hRw
  obtain ⟨q0, q1, q2, q3, q4, q5, q6, q7⟩ := a1.box.cells
  have qf : ∀ m, w4.frozen? ⟨S, m, none⟩ = false := fun m => frozen_of_row w4 S m _ _ a1.box
  obtain ⟨y4, hy⟩ : ∃ y, byt t (k + 4) = y := ⟨_, rfl⟩
  rw [hy]
  have Hy4 := hid hy
  have A1 := hid a1
  have HR1 := hid hr
  clear aS rd hb hr a1 hy
  go_wp2_with fail
  obtain ⟨s1, s2, s3, s4⟩ := A1.out.set HSS.out (by omega) 4 (.int .i64 y4) _ rfl
  have r2 : Rd (w4.setCell ⟨S, 4, none⟩ (.int .i64 y4)) R t (k + 5) := (heap_setCell_other w4 ⟨S, 4, none⟩ R _ (by show R ≠ S; omega)).trans HR1.out
  clear q0 q1 q2 q3 q4 q5 q6 q7 qf A1 HR1
  obtain ⟨W5, hW⟩ : ∃ W, W = w4.setCell ⟨S, 4, none⟩ (.int .i64 y4) := ⟨_, rfl⟩
  rw [← hW] at s1 s2 s3 s4 r2 ⊢
  clear hW
  have aS := As.mk s1 s2 s3 s4
  have rd := r2
  clear s1 s2 s3 s4 r2
  refine (number_any W5 R t (k + 5) rd ht v aS.told).mono ?_
  rintro e w5 (⟨hk5, rfl, hr, hb⟩ | ⟨hk5, rfl, hb⟩)
  rotate_left
  · have a1 := hid (aS.call hb hR hRw)
    clear aS rd hb
    go_wp2
    exact act_panic w w5 S R v _ _ _ _ _ _ _ _ a1.out HSS.out _ rfl rfl _ (fun w' hb => Or.inr ⟨fun hw => by have := hw.1; omega, rfl, hb⟩)
  have a1 := aS.call hb hR hRw
  obtain ⟨q0, q1, q2, q3, q4, q5, q6, q7⟩ := a1.box.cells
  have qf : ∀ m, w5.frozen? ⟨S, m, none⟩ = false := fun m => frozen_of_row w5 S m _ _ a1.box
  obtain ⟨y5, hy⟩ : ∃ y, byt t (k + 5) = y := ⟨_, rfl⟩
  rw [hy]
  have Hy5 := hid hy
  have A1 := hid a1
  have HR1 := hid hr
  clear aS rd hb hr a1 hy
  go_wp2_with fail
  obtain ⟨s1, s2, s3, s4⟩ := A1.out.set HSS.out (by omega) 5 (.int .i64 y5) _ rfl
  have r2 : Rd (w5.setCell ⟨S, 5, none⟩ (.int .i64 y5)) R t (k + 6) := (heap_setCell_other w5 ⟨S, 5, none⟩ R _ (by show R ≠ S; omega)).trans HR1.out
  clear q0 q1 q2 q3 q4 q5 q6 q7 qf A1 HR1
  obtain ⟨W6, hW⟩ : ∃ W, W = w5.setCell ⟨S, 5, none⟩ (.int .i64 y5) := ⟨_, rfl⟩
  rw [← hW] at s1 s2 s3 s4 r2 ⊢
  clear hW
  have aS := As.mk s1 s2 s3 s4
  have rd := r2
  clear s1 s2 s3 s4 r2
  obtain ⟨p, hp⟩ : ∃ p, pN t k = p := ⟨_, rfl⟩
  have e6 : byt t (k + 6) = ((p : Nat) : Int) := by have := byt_bd t (k + 6); rw [← hp]; unfold pN; omega
  have Hp := hid hp
  have E6 := hid e6
  clear hp e6
  refine (count_any W6 R t (k + 6) rd ht v aS.told hR 3).mono ?_
  rintro e v0 (⟨hk6, hm6, rfl, hr, hb⟩ | ⟨hk6, rfl, hb⟩)
  rotate_left
  · have a1 := hid (aS.call hb hR hRw)
    have HK := hid hk6
    clear aS rd hb hk6
    go_wp2
    exact act_panic w v0 S R v _ _ _ _ _ _ _ _ a1.out HSS.out _ rfl rfl _ (fun w' hb => Or.inr ⟨fun hw => HK.out ⟨hw.1, hw.2.1⟩, rfl, hb⟩)
  rw [E6.out] at hm6 ⊢
  have hp3 : p ≤ 3 := by omega
  have a1 := aS.call hb hR hRw
  have K := hid (PairsPieces_any v0 R t (k + 7) p hr ht v a1.told hR (by omega) (by omega))
  have A1 := hid a1
  clear aS rd hb hr a1
  go_wp2_with fail
  refine K.out.mono ?_
  rintro e v1 (⟨hl7, pa, pc, rfl, hrn, hnew, hr, hb⟩ | ⟨hl7, rfl, hb⟩)
  rotate_left
  · have a1 := hid (A1.out.call hb hR hRw)
    clear hb K
    go_wp2
    exact act_panic w v1 S R v _ _ _ _ _ _ _ _ a1.out HSS.out _ rfl rfl _ (fun w' hb => Or.inr ⟨fun hw => by
      have h1 := hw.2.2.1
      unfold pA at h1
      rw [Hp.out] at h1
      omega, rfl, hb⟩)
  have hs0 : S + 1 < v0.heap.size := (Array.getElem?_eq_some_iff.1 A1.out.is).1
  have hnS : ∀ b off, pa = some ⟨b, off, none⟩ → S + 2 ≤ b := fun b off e => by have := hnew b off e; omega
  have a1 := A1.out.call hb hR hRw
  obtain ⟨q0, q1, q2, q3, q4, q5, q6, q7⟩ := a1.box.cells
  have qf : ∀ m, v1.frozen? ⟨S, m, none⟩ = false := fun m => frozen_of_row v1 S m _ _ a1.box
  have A2 := hid a1
  have HR1 := hid hr
  have HRN := hid hrn
  have HNS := hid hnS
  clear hb hr a1 hrn hnS hnew hs0 A1 K
  go_wp2_with fail
  obtain ⟨s1, s2, s3, s4⟩ := A2.out.set HSS.out (by omega) 6 (.slice pa p pc) _ rfl
  have r2 : Rd (v1.setCell ⟨S, 6, none⟩ (.slice pa p pc)) R t (k + 7 + 2 * p) := (heap_setCell_other v1 ⟨S, 6, none⟩ R _ (by show R ≠ S; omega)).trans HR1.out
  have r3 : RunsIn (v1.setCell ⟨S, 6, none⟩ (.slice pa p pc)) pa p pc (prs t (k + 7) p) := HRN.out.set_away ⟨S, 6, none⟩ _ (fun _ b off e => by have := HNS.out b off e; show b ≠ S; omega)
  clear q0 q1 q2 q3 q4 q5 q6 q7 qf A2 HR1 HRN
  obtain ⟨W7, hW⟩ : ∃ W, W = v1.setCell ⟨S, 6, none⟩ (.slice pa p pc) := ⟨_, rfl⟩
  rw [← hW] at s1 s2 s3 s4 r2 r3 ⊢
  clear hW
  have aS := As.mk s1 s2 s3 s4
  have rd := r2
  clear s1 s2 s3 s4 r2
  obtain ⟨P, hP⟩ : ∃ P, k + 7 + 2 * p = P := ⟨_, rfl⟩
  rw [hP] at rd
  have hPA : pA t k = P := by unfold pA; rw [Hp.out]; exact hP
  obtain ⟨q, hq⟩ : ∃ q, cN t k = q := ⟨_, rfl⟩
  have e7 : byt t P = ((q : Nat) : Int) := by have := byt_bd t P; rw [← hq]; unfold cN; rw [hPA]; omega
  have HPA := hid hPA
  have Hq := hid hq
  have E7 := hid e7
  have HP := hid hP
  have hPle : P ≤ t.size := by omega
  clear hPA hq e7 hP
  refine (count_any W7 R t P rd ht v aS.told hR 48).mono ?_
  rintro e v2 (⟨hk7, hm7, rfl, hr, hb⟩ | ⟨hk7, rfl, hb⟩)
  rotate_left
  · have a1 := hid (aS.call hb hR hRw)
    have HK := hid hk7
    clear aS rd hb hk7 r3
    go_wp2
    exact act_panic w v2 S R v _ _ _ _ _ _ _ _ a1.out HSS.out _ rfl rfl _ (fun w' hb => Or.inr ⟨fun hw => HK.out (by
      have h1 := hw.2.2.1
      have h2 := hw.2.2.2.1
      rw [HPA.out] at h1 h2
      exact ⟨h1, h2⟩), rfl, hb⟩)
  rw [E7.out] at hm7 ⊢
  have hq48 : q ≤ 48 := by omega
  have a1 := aS.call hb hR hRw
  have r4 := r3.but hb (fun b off e => by have := HNS.out b off e; omega)
  have K := hid (PairsRuns_any v2 R t (P + 1) q hr ht v a1.told hR (by omega) (by omega))
  have A1 := hid a1
  have R4 := hid r4
  clear aS rd hb hr a1 r3 r4
  go_wp2_with fail
  refine K.out.mono ?_
  rintro e v3 (⟨hl8, ca, cc, rfl, hrn, hnew, hr, hb⟩ | ⟨hl8, rfl, hb⟩)
  rotate_left
  · have a1 := hid (A1.out.call hb hR hRw)
    clear hb K
    go_wp2
    exact act_panic w v3 S R v _ _ _ _ _ _ _ _ a1.out HSS.out _ rfl rfl _ (fun w' hb => Or.inr ⟨fun hw => by
      have h1 := hw.2.2.2.2
      unfold endAt at h1
      rw [HPA.out, Hq.out] at h1
      omega, rfl, hb⟩)
  have hs0 : S + 1 < v2.heap.size := (Array.getElem?_eq_some_iff.1 A1.out.is).1
  have hnS : ∀ b off, ca = some ⟨b, off, none⟩ → S + 2 ≤ b := fun b off e => by have := hnew b off e; omega
  have a1 := A1.out.call hb hR hRw
  have r5 := R4.out.but hb (fun b off e => by have := HNS.out b off e; omega)
  obtain ⟨q0, q1, q2, q3, q4, q5, q6, q7⟩ := a1.box.cells
  have qf : ∀ m, v3.frozen? ⟨S, m, none⟩ = false := fun m => frozen_of_row v3 S m _ _ a1.box
  have A2 := hid a1
  have HR1 := hid hr
  have HRN := hid hrn
  have R5 := hid r5
  have HNC := hid hnS
  clear hb hr a1 hrn hnS hnew hs0 A1 K R4 r5
  go_upto_region 10 with fail
  obtain ⟨s1, s2, s3, s4⟩ := A2.out.set HSS.out (by omega) 7 (.slice ca q cc) _ rfl
  have r2 : Rd (v3.setCell ⟨S, 7, none⟩ (.slice ca q cc)) R t (P + 1 + 2 * q) := (heap_setCell_other v3 ⟨S, 7, none⟩ R _ (by show R ≠ S; omega)).trans HR1.out
  have r3 : RunsIn (v3.setCell ⟨S, 7, none⟩ (.slice ca q cc)) pa p pc (prs t (k + 7) p) := R5.out.set_away ⟨S, 7, none⟩ _ (fun _ b off e => by have := HNS.out b off e; show b ≠ S; omega)
  have r4 : RunsIn (v3.setCell ⟨S, 7, none⟩ (.slice ca q cc)) ca q cc (prs t (P + 1) q) := HRN.out.set_away ⟨S, 7, none⟩ _ (fun _ b off e => by have := HNC.out b off e; show b ≠ S; omega)
  clear q0 q1 q2 q3 q4 q5 q6 q7 qf A2 HR1 HRN R5
  obtain ⟨W8, hW⟩ : ∃ W, W = v3.setCell ⟨S, 7, none⟩ (.slice ca q cc) := ⟨_, rfl⟩
  rw [← hW] at s1 s2 s3 s4 r2 r3 r4 ⊢
  clear hW
  have aS := As.mk s1 s2 s3 s4
  obtain ⟨q0, q1, q2, q3, q4, q5, q6, q7⟩ := aS.box.cells
  have qf : ∀ m, W8.frozen? ⟨S, m, none⟩ = false := fun m => frozen_of_row W8 S m _ _ aS.box
  have b0 : W8.cell? ⟨S + 1, 0, none⟩ = some (.bool false) := by rw [cell_of_row W8 (S + 1) 0 _ _ _ s2]; rfl
  have bf : W8.frozen? ⟨S + 1, 0, none⟩ = false := frozen_of_row W8 (S + 1) 0 _ _ s2
  have AA := hid aS
  have R2 := hid r2
  have R3 := hid r3
  have R4 := hid r4
  clear s1 s2 s3 s4 r2 r3 r4 aS
  go_wp2_with fail
  obtain ⟨t1, t2⟩ := eight_stores W8 S _ _ _ _ _ _ _ _ (.int .i64 y0) (.int .i64 y1) (.int .i64 y2) (.int .i64 y3) (.int .i64 y4) (.int .i64 y5) (.slice pa p pc) (.slice ca q cc) AA.out.box
  have b9 : But [R] w ((((((((W8.setCell ⟨S, 0, none⟩ (.int .i64 y0)).setCell ⟨S, 1, none⟩ (.int .i64 y1)).setCell ⟨S, 2, none⟩ (.int .i64 y2)).setCell ⟨S, 3, none⟩ (.int .i64 y3)).setCell ⟨S, 4, none⟩ (.int .i64 y4)).setCell ⟨S, 5, none⟩ (.int .i64 y5)).setCell ⟨S, 6, none⟩ (.slice pa p pc)).setCell ⟨S, 7, none⟩ (.slice ca q cc)) := ((((((((AA.out.but.newSet (p := ⟨S, 0, none⟩) (by show w.heap.size ≤ S; omega) _).newSet (p := ⟨S, 1, none⟩) (by show w.heap.size ≤ S; omega) _).newSet (p := ⟨S, 2, none⟩) (by show w.heap.size ≤ S; omega) _).newSet (p := ⟨S, 3, none⟩) (by show w.heap.size ≤ S; omega) _).newSet (p := ⟨S, 4, none⟩) (by show w.heap.size ≤ S; omega) _).newSet (p := ⟨S, 5, none⟩) (by show w.heap.size ≤ S; omega) _).newSet (p := ⟨S, 6, none⟩) (by show w.heap.size ≤ S; omega) _).newSet (p := ⟨S, 7, none⟩) (by show w.heap.size ≤ S; omega) _)
  obtain ⟨W9, hW9⟩ : ∃ W9, W9 = ((((((((W8.setCell ⟨S, 0, none⟩ (.int .i64 y0)).setCell ⟨S, 1, none⟩ (.int .i64 y1)).setCell ⟨S, 2, none⟩ (.int .i64 y2)).setCell ⟨S, 3, none⟩ (.int .i64 y3)).setCell ⟨S, 4, none⟩ (.int .i64 y4)).setCell ⟨S, 5, none⟩ (.int .i64 y5)).setCell ⟨S, 6, none⟩ (.slice pa p pc)).setCell ⟨S, 7, none⟩ (.slice ca q cc)) := ⟨_, rfl⟩
  rw [← hW9] at t1 t2 b9 ⊢
  clear hW9
  have i9 : W9.heap[S + 1]? = some (.cells #[.bool false] 4 (0, 0)) := (t2 (S + 1) (by omega)).trans AA.out.is
  have i10 : (W9.setCell ⟨S + 1, 0, none⟩ (.bool true)).heap[S + 1]? = some (.cells #[.bool true] 4 (0, 0)) := heap_setCell_same W9 (S + 1) 0 _ _ (.bool true) i9
  have x10 : AcBox (W9.setCell ⟨S + 1, 0, none⟩ (.bool true)) S (.int .i64 y0) (.int .i64 y1) (.int .i64 y2) (.int .i64 y3) (.int .i64 y4) (.int .i64 y5) (.slice pa p pc) (.slice ca q cc) := (heap_setCell_other W9 ⟨S + 1, 0, none⟩ S _ (by simp)).trans t1
  have o10 : ∀ j, j ≠ S → j ≠ S + 1 → (W9.setCell ⟨S + 1, 0, none⟩ (.bool true)).heap[j]? = W8.heap[j]? := fun j h1 h2 => (heap_setCell_other W9 ⟨S + 1, 0, none⟩ j _ h2).trans (t2 j h1)
  have b10 : But [R] w (W9.setCell ⟨S + 1, 0, none⟩ (.bool true)) := b9.newSet (p := ⟨S + 1, 0, none⟩) (by show w.heap.size ≤ S + 1; omega) _
  refine act_return _ S _ _ _ _ _ _ _ _ x10 i10 _ rfl rfl _ (Or.inl ⟨⟨by omega, ?_, ?_, ?_, ?_⟩, pa, pc, ca, cc, ?_, ?_, ?_, ?_, ?_, ?_, b10⟩)
  · rw [E6.out]; omega
  · rw [HPA.out]; exact hk7
  · rw [HPA.out, E7.out]; omega
  · unfold endAt; rw [HPA.out, Hq.out]; omega
  · rw [Hy0.out, Hy1.out, Hy2.out, Hy3.out, Hy4.out, Hy5.out, Hp.out, Hq.out]
  · rw [Hp.out]; exact R3.out.of_blocks fun b off e => by have := HNS.out b off e; exact o10 b (by omega) (by omega)
  · rw [Hq.out, HPA.out]; exact R4.out.of_blocks fun b off e => by have := HNC.out b off e; exact o10 b (by omega) (by omega)
  · intro b off e; have := HNS.out b off e; omega
  · intro b off e; have := HNC.out b off e; omega
  · unfold endAt; rw [HPA.out, Hq.out]; exact (o10 R (by omega) (by omega)).trans R2.out
end Go.Proofs.YtckpdfkobdgjeaaGreatDoor
namespace Go.Proofs.YtckpdfkobdgjeaaGreatDoor
open Go.RowKit
def acCells (x : Ac) : List Value := [.int .i64 x.kind, .int .i64 x.n, .int .i64 x.rq.queue, .int .i64 x.rq.fr, .int .i64 x.rq.un, .int .i64 x.rq.kind, .slice x.rq.pa x.rq.pn x.rq.pc, .slice x.ca x.cn x.cc]
def acRow : List Ac → List Value
  | [] => []
  | x :: l => acCells x ++ acRow l
theorem acRow_snoc (l : List Ac) (x : Ac) : acRow (l ++ [x]) = acRow l ++ acCells x := by
  induction l with
  | nil => simp [acRow]
  | cons y l ih => simp [acRow, ih]
structure AcAt (t : ByteArray) (k : Nat) (x : Ac) : Prop where
  kind : x.kind = byt t k
  n : x.n = byt t (k + 1)
  queue : x.rq.queue = byt t (k + 2)
  fr : x.rq.fr = byt t (k + 3)
  un : x.rq.un = byt t (k + 4)
  rkind : x.rq.kind = byt t (k + 5)
  ps : x.rq.ps = prs t (k + 7) (pN t k)
  cs : x.cs = prs t (pA t k + 1) (cN t k)
def ReadOf (t : ByteArray) : Nat → List Ac → Nat → Prop
  | k, [], m => m = k
  | k, x :: l, m => whole t k ∧ AcAt t k x ∧ ReadOf t (endAt t k) l m
theorem ReadOf.snoc {t : ByteArray} {k m : Nat} {l : List Ac} (h : ReadOf t k l m) {x : Ac} (hw : whole t m) (hx : AcAt t m x) : ReadOf t k (l ++ [x]) (endAt t m) := by
  induction l generalizing k with
  | nil =>
    obtain rfl : m = k := h
    exact ⟨hw, hx, rfl⟩
  | cons y l ih => exact ⟨h.1, h.2.1, ih h.2.2⟩
theorem ReadOf.le {t : ByteArray} {k m : Nat} {l : List Ac} (h : ReadOf t k l m) (hk : k ≤ t.size) : m ≤ t.size := by
  induction l generalizing k with
  | nil =>
    obtain rfl : m = k := h
    exact hk
  | cons y l ih => exact ih h.2.2 h.1.2.2.2.2
def AcFar (B : Nat) (x : Ac) (v : Value) : Prop := (0 < x.rq.pn → ∀ b off, x.rq.pa = some ⟨b, off, none⟩ → B ≤ b ∧ v.ownBlock ≠ some b) ∧ (0 < x.cn → ∀ b off, x.ca = some ⟨b, off, none⟩ → B ≤ b ∧ v.ownBlock ≠ some b)
theorem AcFar.mono {B B' : Nat} {x : Ac} {v : Value} (h : AcFar B x v) (hB : B' ≤ B) : AcFar B' x v := ⟨fun h0 b off e => ⟨Nat.le_trans hB (h.1 h0 b off e).1, (h.1 h0 b off e).2⟩, fun h0 b off e => ⟨Nat.le_trans hB (h.2 h0 b off e).1, (h.2 h0 b off e).2⟩⟩
theorem AcIn.of_blocks {w w' : World} {x : Ac} (h : AcIn w x) (h1 : 0 < x.rq.pn → ∀ b off, x.rq.pa = some ⟨b, off, none⟩ → w'.heap[b]? = w.heap[b]?) (h2 : 0 < x.cn → ∀ b off, x.ca = some ⟨b, off, none⟩ → w'.heap[b]? = w.heap[b]?) : AcIn w' x := ⟨RunsIn.of_away h.1 h1, h.2.of_away h2⟩
theorem putAct_row (w : World) (B : Nat) (v : Value) (l : List Ac) (h : w.ownsRow B 27 8 v l.length (acRow l)) (x : Ac) (gL : Nat) (hL : w.heap[gL]? = some (.cells (acCells x).toArray 27 (0, 0))) (hl : l.length ≤ 1000) (hB : B ≤ w.heap.size) :
    ∃ g k w', (∀ ty, (Builtin.append_ #[31, 31] ty #[v, .slice (some ⟨gL, 0, none⟩) 1 1]).run Tryz.prog w = .ok (.slice (some ⟨g, 0, none⟩) (l.length + 1) k) w') ∧ w'.ownsRow B 27 8 (.slice (some ⟨g, 0, none⟩) (l.length + 1) k) (l.length + 1) (acRow (l ++ [x])) ∧ w.grownBy w' v.ownBlock ∧ (v.ownBlock = some g ∨ g = w.heap.size) := by
  obtain ⟨i0, hi, e⟩ := Option.map_eq_some_iff.1 (show (Tryz.prog.info? 27).map (fun i => (i.zero, i.size, i.bytes)) = some (some (.agg #[.int .i64 0, .int .i64 0, .int .i64 0, .int .i64 0, .int .i64 0, .int .i64 0, .slice none 0 0, .slice none 0 0]), 8, 96) from by kernel_rfl)
  simp only [Prod.mk.injEq] at e
  obtain ⟨e1, e2, e3⟩ := e
  obtain ⟨g, k, w', h1, h2, h3, h4, h5⟩ := run_append_lies w 31 0 B 27 i0 _ 8 96 Tryz.underlying31 hi e1 e2 e3 (by rfl) (by omega) v l.length _ h ⟨gL, 0, none⟩ 1 1 (acCells x) (by simp [acCells])
    (fun j u hu => by rw [Addr.add_lit, Nat.zero_add, cell_of_row w gL j _ _ _ hL]; simpa using hu) (fun u hu => by
      simp only [acCells, List.mem_cons, List.not_mem_nil, or_false] at hu
      rcases hu with rfl | rfl | rfl | rfl | rfl | rfl | rfl | rfl <;> rfl) (by omega) (by simp only [maxLen]; omega) (by omega) hB w.heap.size rfl
  exact ⟨g, k, w', fun ty => h1, by rw [acRow_snoc]; exact h2, h3, h4⟩
theorem row_form {w : World} {B ty z n : Nat} {u : Value} {xs : List Value} (h : w.ownsRow B ty z u n xs) : ∃ a c, u = .slice a n c := by
  rcases h.2 with ⟨rfl, rfl⟩ | ⟨g, cap, cur, rfl, _⟩
  · exact ⟨_, _, rfl⟩
  · exact ⟨_, _, rfl⟩
theorem row_base {w : World} {B C ty z n : Nat} {u : Value} {xs : List Value} (h : w.ownsRow B ty z u n xs) (hC : C ≤ B) : w.ownsRow C ty z u n xs := by
  refine ⟨h.1, ?_⟩
  rcases h.2 with hz | ⟨g, cap, cur, rfl, hB, rest⟩
  · exact .inl hz
  · exact .inr ⟨g, cap, cur, rfl, by omega, rest⟩
theorem AcIn.but {w w' : World} {R : Nat} {x : Ac} {v : Value} (h : AcIn w x) (hb : But [R] w w') (hf : AcFar (R + 1) x v) : AcIn w' x :=
  h.of_blocks (fun h0 b off e => hb.block b (RunsIn.lt h.1 h0 e) (fun e2 => by have := (hf.1 h0 b off e).1; have := List.mem_singleton.1 e2; omega)) (fun h0 b off e => hb.block b (h.2.lt h0 e) (fun e2 => by have := (hf.2 h0 b off e).1; have := List.mem_singleton.1 e2; omega))
def RepAns (w w' : World) (e : Ending) (t : ByteArray) : Prop := Below w.heap.size w w' ∧
      ((4096 < t.size ∧ e = .returned (.tuple #[.slice none 0 0, .int .i64 0, .int .i64 2])) ∨
       (t.size ≤ 4096 ∧ ∃ (u : Value) (l : List Ac) (m : Nat), e = .returned (.tuple #[u, .int .i64 (m : Int), .int .i64 0]) ∧ w'.ownsRow w.heap.size 27 8 u l.length (acRow l) ∧ (∀ x ∈ l, AcIn w' x ∧ AcFar w.heap.size x u) ∧ ReadOf t 0 l m ∧ l.length ≤ 60 ∧ (l.length = 60 ∨ ¬ whole t m)))
theorem Told.below {w w' : World} {v : Value} {S : Nat} (h : Told w v) (hS : w.heap.size = S) (hb : Below S w w') : Told w' v := by
  refine ⟨?_, h.2⟩
  rw [World.cell?_of_block (w := w) (hb.block 0 (by rw [← hS]; exact block_lt_of_cell h.1))]
  exact h.1
set_option maxRecDepth 100000 in
set_option maxHeartbeats 4000000 in
theorem Replay_any (w : World) (t : ByteArray) (v : Value) (hv : Told w v) :
    Calls Tryz.prog 11 #[.string t] w fun e w' => RepAns w w' e t := by
  obtain ⟨S, hS⟩ : ∃ S, w.heap.size = S := ⟨_, rfl⟩
  have HSS := hid hS
  have hS0 : 0 < S := by rw [← hS]; exact block_lt_of_cell hv.1
  have HV := hid hv
  clear hv
  by_cases ht : 4096 < t.size
  · have ht' : (4096 : Int) < t.size := by omega
    go_enter Tryz.func11, Tryz.ntmps11
    go_wp2
    go_ret3
    exact ⟨Below.refl _ _, Or.inl ⟨ht, rfl⟩⟩
  have ht' : ¬ (4096 : Int) < t.size := by omega
  go_enter Tryz.func11, Tryz.ntmps11
  go_wp2_with fail
  go_loopg [6, 7] 60 (fun gk (u p : Value) wr => ∃ (l : List Ac) (m : Nat), p = .int .i64 (m : Int) ∧ l.length ≤ 60 ∧ gk = 60 - l.length ∧ wr.ownsRow (S + 1) 27 8 u l.length (acRow l) ∧ (∀ x ∈ l, AcIn wr x ∧ AcFar (S + 1) x u) ∧ ReadOf t 0 l m ∧ Rd wr S t m ∧ Below S w wr)
  case atStart =>
    have hb0 : Below S w (w.alloc (.cells #[.string t, .int .i64 0] 82)) := by rw [← HSS.out]; exact (Below.refl _ _).alloc (Nat.le_refl _) _
    refine ⟨[], 0, rfl, by simp, by simp, World.ownsRow_nil _ _ _ _, by simp, rfl, ?_, hb0⟩
    show _ = some _
    rw [← HSS.out]
    exact heap_alloc_new w _
  case round =>
    obtain ⟨l, m, rfl, hl, rfl, hrow, hin, hread, hrd, hb⟩ := hrel
    obtain ⟨a, c, hu⟩ := row_form hrow
    subst hu
    have hm : m ≤ t.size := hread.le (Nat.zero_le _)
    by_cases hlt : l.length < 60
    · have hlt' : (l.length : Int) < 60 := by omega
      have K1 := hid (act_any wr S t m hrd (by omega) v (HV.out.below HSS.out hb) hS0 hm)
      have HROW := hid hrow
      have HIN := hid hin
      have HREAD := hid hread
      have HRD := hid hrd
      have HB := hid hb
      clear hrow hin hread hrd hb
      go_wp2_with fail
      refine K1.out.mono ?_
      rintro e w1 (⟨hw, pa, pc, ca, cc, rfl, hp, hc, hpn, hcn, hr1, hb1⟩ | ⟨hw, rfl, hb1⟩)
      · obtain ⟨X, hX⟩ : ∃ X : Ac, X = ⟨byt t m, byt t (m + 1), ⟨byt t (m + 2), byt t (m + 3), byt t (m + 4), byt t (m + 5), pa, pN t m, pc, prs t (m + 7) (pN t m)⟩, ca, cN t m, cc, prs t (pA t m + 1) (cN t m)⟩ := ⟨_, rfl⟩
        have hin1 : AcIn w1 X := by rw [hX]; exact ⟨hp, hc⟩
        have hat : AcAt t m X := by rw [hX]; exact ⟨rfl, rfl, rfl, rfl, rfl, rfl, rfl, rfl⟩
        have hpX : ∀ b off, X.rq.pa = some ⟨b, off, none⟩ → wr.heap.size ≤ b := by rw [hX]; exact hpn
        have hcX : ∀ b off, X.ca = some ⟨b, off, none⟩ → wr.heap.size ≤ b := by rw [hX]; exact hcn
        rw [show byt t m = X.kind by rw [hX], show byt t (m + 1) = X.n by rw [hX], show byt t (m + 2) = X.rq.queue by rw [hX], show byt t (m + 3) = X.rq.fr by rw [hX], show byt t (m + 4) = X.rq.un by rw [hX], show byt t (m + 5) = X.rq.kind by rw [hX], show Value.slice pa (pN t m) pc = .slice X.rq.pa X.rq.pn X.rq.pc by rw [hX], show Value.slice ca (cN t m) cc = .slice X.ca X.cn X.cc by rw [hX]]
        clear hX hp hc hpn hcn
        have hs := HB.out.size
        have hs1 := hb1.size
        have hws : S < wr.heap.size := (Array.getElem?_eq_some_iff.1 HRD.out).1
        obtain ⟨W2, hW2⟩ : ∃ W, W = (w1.alloc (.cells #[.int .i64 X.kind, .int .i64 X.n, .int .i64 X.rq.queue, .int .i64 X.rq.fr, .int .i64 X.rq.un, .int .i64 X.rq.kind, .slice X.rq.pa X.rq.pn X.rq.pc, .slice X.ca X.cn X.cc] 27)).alloc (.cells #[.int .i64 X.kind, .int .i64 X.n, .int .i64 X.rq.queue, .int .i64 X.rq.fr, .int .i64 X.rq.un, .int .i64 X.rq.kind, .slice X.rq.pa X.rq.pn X.rq.pc, .slice X.ca X.cn X.cc] 27) := ⟨_, rfl⟩
        have hbW : Below w1.heap.size w1 W2 := by rw [hW2]; exact ((Below.refl _ _).alloc (Nat.le_refl _) _).alloc (by simp) _
        have hszW : W2.heap.size = w1.heap.size + 2 := by rw [hW2]; simp
        have hL : W2.heap[w1.heap.size + 1]? = some (.cells (acCells X).toArray 27 (0, 0)) := by
          have := heap_alloc_new (w1.alloc (.cells #[.int .i64 X.kind, .int .i64 X.n, .int .i64 X.rq.queue, .int .i64 X.rq.fr, .int .i64 X.rq.un, .int .i64 X.rq.kind, .slice X.rq.pa X.rq.pn X.rq.pc, .slice X.ca X.cn X.cc] 27)) (.cells #[.int .i64 X.kind, .int .i64 X.n, .int .i64 X.rq.queue, .int .i64 X.rq.fr, .int .i64 X.rq.un, .int .i64 X.rq.kind, .slice X.rq.pa X.rq.pn X.rq.pc, .slice X.ca X.cn X.cc] 27)
          rw [World.size_alloc] at this
          rw [hW2]
          exact this
        have hrow2 := ownsRow_later (row_but HROW.out hb1 (fun e => by have := (HROW.out.lt S e).1; omega)) hbW
        have hown : ∀ y, (Value.slice a l.length c).ownBlock = some y → S + 1 ≤ y ∧ y < wr.heap.size := fun y e => HROW.out.lt y e
        obtain ⟨g, k, w3, hrun, ho, hgr, hfr⟩ := putAct_row W2 (S + 1) (.slice a l.length c) l hrow2 X (w1.heap.size + 1) hL (by omega) (by omega)
        have hr3 : Rd w3 S t (endAt t m) := (hgr.block S (by omega) (fun e => by have := (hown S e.symm).1; omega)).trans (hr1.later hbW)
        have hkeep : ∀ y : Ac, AcIn w1 y → AcFar (S + 1) y (.slice a l.length c) → AcIn w3 y := fun y hy hf => (hy.later hbW).of_blocks (fun h0 b off e => hgr.block b (RunsIn.lt (hy.later hbW).1 h0 e) (fun e2 => (hf.1 h0 b off e).2 e2.symm)) (fun h0 b off e => hgr.block b ((hy.later hbW).2.lt h0 e) (fun e2 => (hf.2 h0 b off e).2 e2.symm))
        have hfX : AcFar (S + 1) X (.slice a l.length c) := ⟨fun _ b off e => by have := hpX b off e; exact ⟨by omega, fun e2 => by have := (hown b e2).2; omega⟩, fun _ b off e => by have := hcX b off e; exact ⟨by omega, fun e2 => by have := (hown b e2).2; omega⟩⟩
        have hfar : ∀ y : Ac, AcIn w1 y → AcFar (S + 1) y (.slice a l.length c) → AcFar (S + 1) y (.slice (some ⟨g, 0, none⟩) (l.length + 1) k) := fun y hy hf => ⟨fun h0 b off e => ⟨(hf.1 h0 b off e).1, fun e2 => by
          have e3 : g = b := by simpa [Value.ownBlock] using e2
          have h1 := RunsIn.lt hy.1 h0 e
          rcases hfr with h2 | h2
          · exact (hf.1 h0 b off e).2 (by rw [h2, e3])
          · omega⟩, fun h0 b off e => ⟨(hf.2 h0 b off e).1, fun e2 => by
          have e3 : g = b := by simpa [Value.ownBlock] using e2
          have h1 := hy.2.lt h0 e
          rcases hfr with h2 | h2
          · exact (hf.2 h0 b off e).2 (by rw [h2, e3])
          · omega⟩⟩
        have hnew : ∀ y ∈ l ++ [X], AcIn w3 y ∧ AcFar (S + 1) y (.slice (some ⟨g, 0, none⟩) (l.length + 1) k) := fun y hy => by
          rcases List.mem_append.1 hy with hy | hy
          · have h1 := (HIN.out y hy).1.but hb1 (HIN.out y hy).2
            exact ⟨hkeep y h1 (HIN.out y hy).2, hfar y h1 (HIN.out y hy).2⟩
          · obtain rfl := List.mem_singleton.1 hy
            exact ⟨hkeep _ hin1 hfX, hfar _ hin1 hfX⟩
        have hbw1 : Below S w w1 := ⟨hb1.os.trans HB.out.os, hb1.tape.trans HB.out.tape, hb1.output.trans HB.out.output, by omega, fun j hj => by
          rw [hb1.block j (by omega) (fun e => by have := List.mem_singleton.1 e; omega)]
          exact HB.out.block j hj⟩
        have hbw3 : Below S w w3 := (hbw1.trans (hbW.mono (by omega))).trans ⟨hgr.os, hgr.tape, hgr.output, hgr.size, fun j hj => hgr.block j (by omega) (fun e => by have := (hown j e.symm).1; omega)⟩
        have q1 : w3.cell? ⟨S, 1, none⟩ = some (.int .i64 (endAt t m : Nat)) := by rw [cell_of_row w3 S 1 _ _ _ hr3]; rfl
        have HR3 := hid hr3
        have HNEW := hid hnew
        have HBW3 := hid hbw3
        have HO := hid ho
        have HRD2 := hid (HREAD.out.snoc hw hat)
        rw [hW2] at hrun
        have hrun' := hrun 31
        clear hW2 hbW hszW hL hrow2 hown hrun hgr hfr hr3 hkeep hfX hfar hnew hbw1 hbw3 ho hb1 hr1 hin1 hat hpX hcX hw hs hs1 hws
        go_wp2_with (at_builtin; refine Lib.wpList_append_run _ rfl _ _ _ _ rfl _ _ rfl rfl _ _ hrun' ?_)
        go_roundg (60 - (l.length + 1))
        case rel => exact ⟨l ++ [X], endAt t m, rfl, by simp; omega, by simp, by simpa using HO.out, by simpa using HNEW.out, HRD2.out, HR3.out, HBW3.out⟩
        case measure => simp; omega
      · have HB1 := hid hb1
        clear hb1
        go_wp2
        go_ret3
        have hs := HB.out.size
        have hws : S < wr.heap.size := (Array.getElem?_eq_some_iff.1 HRD.out).1
        have hs1 := HB1.out.size
        have hbZ : Below w1.heap.size w1 (w1.alloc (.cells #[.int .i64 0, .int .i64 0, .int .i64 0, .int .i64 0, .int .i64 0, .int .i64 0, .slice none 0 0, .slice none 0 0] 27)) := (Below.refl _ _).alloc (Nat.le_refl _) _
        have hrow1 := ownsRow_later (row_but HROW.out HB1.out (fun e => by have := (HROW.out.lt S e).1; omega)) hbZ
        have hbw1 : Below S w w1 := ⟨HB1.out.os.trans HB.out.os, HB1.out.tape.trans HB.out.tape, HB1.out.output.trans HB.out.output, by omega, fun j hj => by
          rw [HB1.out.block j (by omega) (fun e => by have := List.mem_singleton.1 e; omega)]
          exact HB.out.block j hj⟩
        refine ⟨by rw [HSS.out]; exact hbw1.alloc (by omega) _, Or.inr ⟨by omega, _, l, m, rfl, row_base hrow1 (by omega), fun x hx => ⟨((HIN.out x hx).1.but HB1.out (HIN.out x hx).2).later hbZ, AcFar.mono (HIN.out x hx).2 (by omega)⟩, HREAD.out, hl, Or.inr hw⟩⟩
    · obtain hl60 : l.length = 60 := by omega
      have HROW := hid hrow
      have HIN := hid hin
      have HREAD := hid hread
      have HB := hid hb
      have hlt' : ¬ (l.length : Int) < 60 := by omega
      have HL := hid hl60
      clear hrow hin hread hrd hb hl60
      go_wp2
      go_ret3
      exact ⟨by rw [HSS.out]; exact HB.out, Or.inr ⟨by omega, _, l, m, rfl, row_base HROW.out (by omega), fun x hx => ⟨(HIN.out x hx).1, AcFar.mono (HIN.out x hx).2 (by omega)⟩, HREAD.out, hl, Or.inl HL.out⟩⟩
end Go.Proofs.YtckpdfkobdgjeaaGreatDoor
namespace Go.Proofs.YtckpdfkobdgjeaaGreatDoor
open Go.RowKit
def Ac.bare (x : Ac) : Ac := ⟨x.kind, x.n, x.rq.bare, none, 0, 0, x.cs⟩
def acAt (t : ByteArray) (k : Nat) : Ac := ⟨byt t k, byt t (k + 1), ⟨byt t (k + 2), byt t (k + 3), byt t (k + 4), byt t (k + 5), none, 0, 0, prs t (k + 7) (pN t k)⟩, none, 0, 0, prs t (pA t k + 1) (cN t k)⟩
theorem AcAt.is {t : ByteArray} {k : Nat} {x : Ac} (h : AcAt t k x) : x.bare = acAt t k := by
  obtain ⟨h1, h2, h3, h4, h5, h6, h7, h8⟩ := h
  unfold Ac.bare acAt Rq.bare
  rw [h1, h2, h3, h4, h5, h6, h7, h8]
def readF (t : ByteArray) : Nat → Nat → List Ac × Nat
  | 0, k => ([], k)
  | f + 1, k => if whole t k then (acAt t k :: (readF t f (endAt t k)).1, (readF t f (endAt t k)).2) else ([], k)
theorem ReadOf.is {t : ByteArray} : ∀ {l : List Ac} {k m f : Nat}, ReadOf t k l m → l.length ≤ f → (l.length = f ∨ ¬ whole t m) → readF t f k = (l.map Ac.bare, m)
  | [], k, m, 0, h, _, _ => by obtain rfl : m = k := h; rfl
  | [], k, m, f + 1, h, _, hw => by
    obtain rfl : m = k := h
    rw [readF, if_neg (hw.resolve_left (by simp))]
    rfl
  | x :: l, k, m, 0, _, hl, _ => by simp at hl
  | x :: l, k, m, f + 1, h, hl, hw => by
    rw [readF, if_pos h.1, ReadOf.is h.2.2 (by simp at hl; omega) (by simpa using hw), List.map_cons, h.2.1.is]
theorem prs_same {t t' : ByteArray} {k k' n : Nat} (h : ∀ j, j < 2 * n → byt t' (k' + j) = byt t (k + j)) : prs t' k' n = prs t k n := by
  unfold prs
  refine List.map_congr_left fun j hj => ?_
  have hj' := List.mem_range.1 hj
  rw [h (2 * j) (by omega), Nat.add_assoc, h (2 * j + 1) (by omega), ← Nat.add_assoc]
end Go.Proofs.YtckpdfkobdgjeaaGreatDoor
