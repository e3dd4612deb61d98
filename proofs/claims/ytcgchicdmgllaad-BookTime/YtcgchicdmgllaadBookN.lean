/- Plain facts for booking: what stays over two ticks; a right state at a later clock; what was submitted stands last. -/
import Derived.Test.YtcgchicdmgllaadDelD
import Derived.Test.YtcgchicdmgllaadBookF
namespace Go.Proofs.Ytcgchicdmgllaad

theorem stays_two (b : BL) {t u : Int} (h : t ≤ u) : stays (stays b t) u = stays b u := by
  unfold stays
  rw [List.filter_filter]
  apply List.filter_congr
  intro x _
  by_cases hx : overV x ≤ u
  · simp [hx]
  · have : ¬ overV x ≤ t := by omega
    simp [hx, this]
theorem id_of {c n : Int} {l : QL} {b : BL} (h : Sound c n l b) {j : Nat} (hj : j < b.length) : bookAt b (bk b j).id = some j := by
  refine findFrom_at (fun s hs => ?_) hj (by simp)
  have := ids_rise h hj hs
  simp
  omega
theorem bk_is {b : BL} {i : Nat} (h : i < b.length) : bk b i = b[i] := by simp [bk, List.getD, h]
theorem sum_less (f : Bk → Int) : ∀ {a b : BL}, a.Sublist b → (∀ x ∈ b, 0 ≤ f x) → (a.map f).sum ≤ (b.map f).sum := by
  intro a b h
  induction h with
  | slnil => intro _; exact Int.le_refl _
  | cons x _ ih =>
    intro h0
    have h1 := ih fun y hy => h0 y (List.mem_cons_of_mem _ hy)
    have h2 := h0 x (List.mem_cons_self ..)
    simp only [List.map_cons, List.sum_cons]
    omega
  | cons_cons x _ ih =>
    intro h0
    have h1 := ih fun y hy => h0 y (List.mem_cons_of_mem _ hy)
    simp only [List.map_cons, List.sum_cons]
    omega
/-- some of a right state's books, at a later clock -/
theorem sub_sound {c n : Int} {l : QL} {b b1 : BL} (h : Sound c n l b) (hs : b1.Sublist b) {t : Int} (hct : c ≤ t) (ht : t ≤ 48) (ha : ∀ x ∈ b1, t < overV x) : Sound t n l b1 := by
  have hlen := hs.length_le
  have hcl : Clean l b1 := clean_sub h.clean (by have := h.clean.few; omega) (fun x hx => hs.subset hx)
  have hP : b.Pairwise (fun x y => x.id < y.id) := by
    rw [List.pairwise_iff_getElem]
    intro i j hi hj hij
    have := ids_rise h hj hij
    rw [bk_is hi, bk_is hj] at this
    exact this
  have hP1 := hP.sublist hs
  rw [List.pairwise_iff_getElem] at hP1
  have hin : ∀ x ∈ b, 0 ≤ x.id ∧ x.id < n := by
    intro x hx
    obtain ⟨i, hi, rfl⟩ := List.getElem_of_mem hx
    have h1 := h.rise i hi
    have h2 := ids_low h hi
    rw [bk_is hi] at h1 h2
    exact ⟨h2.1, h1.2⟩
  refine ⟨hcl, by have := h.c0; omega, ht, h.n0, h.n1, fun i hi => ?_, fun i hi => ha _ (bk_mem hi), fun q hq u hu1 hu2 => ?_⟩
  · have h1 := hin _ (hs.subset (bk_mem hi))
    refine ⟨?_, h1.2⟩
    unfold leastId
    by_cases e : i = 0
    · rw [if_pos e]; exact h1.1
    · rw [if_neg e]
      have h2 := hP1 (i - 1) i (by omega) hi (by omega)
      rw [bk_is hi, bk_is (show i - 1 < b1.length by omega)]
      omega
  · have h1 := h.fits q hq u (by omega) hu2
    rw [use_all] at h1 ⊢
    have h2 := sum_less (oneV l q u) hs fun x hx => (oneV_bd (l := l) (clean_at h.clean hx).1 q u).1
    omega
/-- H2: what comes of a Tick is right -/
theorem tick_sound {c n : Int} {l : QL} {b : BL} {t : Int} (h : tickE c n l b t = 0) : Sound t n l (stays b t) := by
  obtain ⟨hp, h0, h1, hc⟩ := tick_ok h
  refine sub_sound (sound_of hp) List.filter_sublist hc h1 fun x hx => ?_
  have := (List.mem_filter.1 hx).2
  simp at this
  exact this
theorem tick_more {c n : Int} {l : QL} {b : BL} {t u : Int} (h : tickE c n l b t = 0) (htu : t ≤ u) (hu : u ≤ 48) : tickE c n l b u = 0 := by
  obtain ⟨hp, h0, h1, hc⟩ := tick_ok h
  unfold tickE
  rw [if_pos hp, if_neg (by omega), if_neg (by omega)]
theorem tickE_same {c n : Int} {l l' : QL} {b b' : BL} (hl : bareQ l' = bareQ l) (hb : bareB b' = bareB b) (t : Int) : tickE c n l' b' t = tickE c n l b t := by
  unfold tickE
  rw [planE_same hl hb]

theorem bare_at {b b' : BL} (h : bareB b' = bareB b) (i : Nat) : (bk b' i).bare = (bk b i).bare := by rw [← bk_bare, h, bk_bare]
theorem bare_len {b b' : BL} (h : bareB b' = bareB b) : b'.length = b.length := by rw [← len_bareB, h, len_bareB]
theorem last_of {b b9 : BL} {X : Bk} (h : bareB b9 = bareB (b ++ [X])) : (bk b9 b.length).bare = X.bare := by rw [bare_at h, bk_end]
theorem first_of {b b9 : BL} {X : Bk} (h : bareB b9 = bareB (b ++ [X])) : bareB (b9.take b.length) = bareB b := by
  unfold bareB at h ⊢
  rw [List.map_take, h, List.map_append, List.take_left' (by simp)]
theorem gone_of {b b9 : BL} {X : Bk} (h : bareB b9 = bareB (b ++ [X])) : bareB (b9.take b.length ++ b9.drop (b.length + 1)) = bareB b := by
  have hl : b9.length = b.length + 1 := by rw [bare_len h]; simp
  rw [List.drop_of_length_le (by omega), List.append_nil]
  exact first_of h
/-- H1: what is submitted is right -/
theorem booked_sound {c n : Int} {l : QL} {b : BL} {r : Rq} (h : subE c n l b r = 0) : Sound c (n + 1) l (b ++ [⟨n, r, none, 0, 0, (placeR l b r).1⟩]) := by
  obtain ⟨h1, h12, hn, hp⟩ := sub_ok h
  obtain ⟨p1, p2, p3⟩ := seek_ok h1
  unfold placeR at hp ⊢
  by_cases er : roomE l b r.queue = 0
  · rw [if_pos er] at hp ⊢
    by_cases e0 : placeErr (roomR l b r.queue) r = 0
    · rw [if_pos e0] at hp ⊢
      obtain ⟨g1, g2⟩ := find_good e0 (Prod.ext rfl hp)
      exact submit_sound (sound_of p1) rfl p2 p3 h12 hn g1 g2
    · rw [if_neg e0] at hp; cases hp
  · rw [if_neg er] at hp; cases hp
theorem booked_facts {c n : Int} {l l' : QL} {b b9 : BL} {r : Rq} (h : subE c n l b r = 0) (hl : bareQ l' = bareQ l) (hb : bareB b9 = bareB (b ++ [⟨n, r, none, 0, 0, (placeR l b r).1⟩])) :
    planE c (n + 1) l' b9 = 0 ∧ bookAt b9 n = some b.length ∧ (bk b9 b.length).id = n ∧ (bk b9 b.length).rq.bare = r.bare ∧ bareB (b9.take b.length) = bareB b ∧ bareB (b9.take b.length ++ b9.drop (b.length + 1)) = bareB b := by
  have h1 : planE c (n + 1) l' b9 = 0 := (planE_same hl hb).trans (planE_ok (booked_sound h))
  have e := last_of hb
  have hi : (bk b9 b.length).id = n := congrArg Bk.id e
  have hlen : b9.length = b.length + 1 := by rw [bare_len hb]; simp
  refine ⟨h1, ?_, hi, congrArg Bk.rq e, first_of hb, gone_of hb⟩
  have := id_of (sound_of h1) (j := b.length) (by omega)
  rwa [hi] at this
end Go.Proofs.Ytcgchicdmgllaad
