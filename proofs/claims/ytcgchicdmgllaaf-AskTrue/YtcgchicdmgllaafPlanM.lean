/- States, plain: the same queues and books wherever they lie; a state's errors, and what a right state is. -/
import Derived.Test.YtcgchicdmgllaafLoadAll
import Derived.Test.YtcgchicdmgllaafRoomAll
import Derived.Test.YtcgchicdmgllaafPlaceAll
namespace Go.Proofs.Ytcgchicdmgllaaf

/-- the same, wherever its runs lie -/
def Qu.bare (q : Qu) : Qu := ⟨q.name, q.parent, none, 0, 0, q.runs⟩
def bareQ (l : QL) : QL := l.map Qu.bare
def Rq.bare (r : Rq) : Rq := ⟨r.queue, r.fr, r.un, r.kind, none, 0, 0, r.ps⟩
def Bk.bare (x : Bk) : Bk := ⟨x.id, x.rq.bare, none, 0, 0, x.bs⟩
def bareB (b : BL) : BL := b.map Bk.bare
theorem qu_bare (l : QL) (i : Nat) : qu (bareQ l) i = (qu l i).bare := by
  unfold qu bareQ
  rw [List.getD_eq_getElem?_getD, List.getD_eq_getElem?_getD, List.getElem?_map]
  cases l[i]? <;> rfl
theorem bk_bare (b : BL) (i : Nat) : bk (bareB b) i = (bk b i).bare := by
  unfold bk bareB
  rw [List.getD_eq_getElem?_getD, List.getD_eq_getElem?_getD, List.getElem?_map]
  cases b[i]? <;> rfl
theorem len_bareQ (l : QL) : (bareQ l).length = l.length := List.length_map _
theorem len_bareB (b : BL) : (bareB b).length = b.length := List.length_map _
theorem allQ_bare {p : Qu → Bool} (hp : ∀ q, p q.bare = p q) (l : QL) : ∀ n, allQ p (bareQ l) n = allQ p l n
  | 0 => rfl
  | n + 1 => by rw [allQ, allQ, allQ_bare hp l n, qu_bare, hp]
theorem nm_bare (l : QL) (i : Nat) : nm (bareQ l) i = nm l i := by unfold nm; rw [qu_bare]; rfl
theorem sameBefore_bare (l : QL) (k : Nat) : ∀ m, sameBefore (bareQ l) k m = sameBefore l k m
  | 0 => rfl
  | m + 1 => by rw [sameBefore, sameBefore, sameBefore_bare l k m, nm_bare, nm_bare]
theorem nodupTo_bare (l : QL) : ∀ n, nodupTo (bareQ l) n = nodupTo l n
  | 0 => rfl
  | n + 1 => by rw [nodupTo, nodupTo, nodupTo_bare l n, sameBefore_bare]
theorem parTo_bare (l : QL) : ∀ n, parTo (bareQ l) n = parTo l n
  | 0 => rfl
  | n + 1 => by rw [parTo, parTo, parTo_bare l n, qu_bare]; rfl
theorem chkT_bare (l : QL) : chkT (bareQ l) = chkT l := by
  unfold chkT namesOk capsOk
  rw [len_bareQ, allQ_bare (fun _ => rfl), nodupTo_bare, parTo_bare, allQ_bare (fun _ => rfl)]
theorem lineF_bare (l : QL) : ∀ f q, lineF (bareQ l) f q = lineF l f q
  | 0, _ => rfl
  | f + 1, q => by rw [lineF, lineF, qu_bare, lineF_bare l f]; rfl
theorem lineOf_bare (l : QL) (q : Int) : lineOf (bareQ l) q = lineOf l q := lineF_bare l 5 q
theorem chkQR_bare (l : QL) (r : Rq) : chkQR (bareQ l) r.bare = chkQR l r := by unfold chkQR; rw [chkT_bare, len_bareQ]; rfl
theorem chkQR_bare' (l : QL) (r : Rq) : chkQR (bareQ l) r = chkQR l r := by unfold chkQR; rw [chkT_bare, len_bareQ]
theorem meets_bare (r : Rq) (b : RunL) : meets r.bare b = meets r b := by kernel_rfl
theorem chkB_bare (l : QL) (x : Bk) : chkB (bareQ l) x.bare = chkB l x := by
  unfold chkB
  show (if chkQR (bareQ l) x.rq.bare = 0 then (if meets x.rq.bare x.bs = true then 0 else 1) else chkQR (bareQ l) x.rq.bare) = _
  rw [chkQR_bare, meets_bare]
theorem noB_bare (l : QL) (b : BL) (e : Int) : noB (bareQ l) (bareB b) e = noB l b e := by
  unfold noB
  rw [len_bareB]
  congr 1
  funext i
  rw [bk_bare, chkB_bare]
theorem firstE_bare (l : QL) (b : BL) : ∀ m k, firstE (bareQ l) (bareB b) k m = firstE l b k m
  | 0, _ => rfl
  | m + 1, k => by rw [firstE, firstE, noB_bare, firstE_bare l b m]
theorem chkL_bare (l : QL) (b : BL) : chkL (bareQ l) (bareB b) = chkL l b := by unfold chkL; rw [chkT_bare, len_bareB, firstE_bare]
theorem withTo_bare (f : RunL) (x : Bk) : ∀ k, withTo f x.bare k = withTo f x k
  | 0 => rfl
  | k + 1 => by rw [withTo, withTo, withTo_bare f x k]; rfl
theorem addAll_bare (x : Bk) : ∀ (ps : List Int) (T : Nat → RunL), addAll x.bare T ps = addAll x T ps
  | [], _ => rfl
  | p :: ps, T => by
    rw [addAll, addAll, addAll_bare x ps]
    congr 1
    funext q
    rw [show x.bare.bs.length = x.bs.length from rfl, withTo_bare]
theorem takenTo_bare (l : QL) (b : BL) : ∀ j, takenTo (bareQ l) (bareB b) j = takenTo l b j
  | 0 => rfl
  | j + 1 => by rw [takenTo, takenTo, takenTo_bare l b j, bk_bare, lineOf_bare, addAll_bare]; rfl
theorem fitsTo_bare (l : QL) (T : Nat → RunL) (fm : Int) : ∀ n, fitsTo (bareQ l) T fm n = fitsTo l T fm n
  | 0 => rfl
  | n + 1 => by rw [fitsTo, fitsTo, fitsTo_bare l T fm n, qu_bare]; rfl
theorem fitsE_bare (l : QL) (b : BL) (fm : Int) : fitsE (bareQ l) (bareB b) fm = fitsE l b fm := by unfold fitsE; rw [chkL_bare]
theorem fitsR_bare (l : QL) (b : BL) (fm : Int) : fitsR (bareQ l) (bareB b) fm = fitsR l b fm := by unfold fitsR; rw [fitsE_bare, len_bareB, len_bareQ, takenTo_bare, fitsTo_bare]
theorem roomTo_bare (l : QL) (T : Nat → RunL) : ∀ (ps : List Int) (f : RunL), roomTo (bareQ l) T f ps = roomTo l T f ps
  | [], _ => rfl
  | p :: ps, f => by rw [roomTo, roomTo, roomTo_bare l T ps, qu_bare]; rfl
theorem roomR_bare (l : QL) (b : BL) (q : Int) : roomR (bareQ l) (bareB b) q = roomR l b q := by unfold roomR; rw [len_bareB, takenTo_bare, lineOf_bare, roomTo_bare]
theorem roomE_bare (l : QL) (b : BL) (q : Int) : roomE (bareQ l) (bareB b) q = roomE l b q := by unfold roomE; rw [chkL_bare, len_bareQ]
theorem findA_bare (r : Rq) (f : RunL) : findA r.bare f = findA r f := by kernel_rfl
theorem overOk_bare (r : Rq) (b : RunL) : overOk r.bare b = overOk r b := by kernel_rfl
theorem overMax_bare (r : Rq) (b : RunL) : ∀ k, overMax r.bare b k = overMax r b k
  | 0 => rfl
  | k + 1 => by rw [overMax, overMax, overMax_bare r b k]; rfl

/-- by when a book is over, as Over tells it -/
def overV (x : Bk) : Int := if overOk x.rq x.bs = true then overMax x.rq x.bs x.bs.length else 0
theorem overV_bare (x : Bk) : overV x.bare = overV x := by
  unfold overV
  show (if overOk x.rq.bare x.bs = true then overMax x.rq.bare x.bs x.bs.length else 0) = _
  rw [overOk_bare, overMax_bare]
/-- the least Id that the i-th may have -/
def leastId (b : BL) (i : Nat) : Int := if i = 0 then 0 else (bk b (i - 1)).id + 1
def idOk (b : BL) (next : Int) (i : Nat) : Bool := decide (leastId b i ≤ (bk b i).id ∧ (bk b i).id < next)
def risB (b : BL) (next : Int) : Bool := allN (idOk b next) b.length
def lateB (b : BL) (t : Int) : Bool := !allN (fun i => !decide (overV (bk b i) ≤ t)) b.length
/-- G1's errors -/
def planE (clock next : Int) (l : QL) (b : BL) : Int :=
  if chkL l b = 0 then (if (0 ≤ clock ∧ clock ≤ 48) ∧ (0 ≤ next ∧ next ≤ 1048576) then (if risB b next = true then (if lateB b clock = true then 9 else (if fitsR l b clock = true then 0 else 10)) else 1) else 3) else chkL l b
theorem risB_bare (b : BL) (next : Int) : risB (bareB b) next = risB b next := by
  unfold risB
  rw [len_bareB]
  congr 1
  funext i
  unfold idOk leastId
  rw [bk_bare, bk_bare]
  rfl
theorem lateB_bare (b : BL) (t : Int) : lateB (bareB b) t = lateB b t := by
  unfold lateB
  rw [len_bareB]
  congr 2
  funext i
  rw [bk_bare, overV_bare]
theorem planE_bare (c n : Int) (l : QL) (b : BL) : planE c n (bareQ l) (bareB b) = planE c n l b := by unfold planE; rw [chkL_bare, risB_bare, lateB_bare, fitsR_bare]
theorem planE_same {c n : Int} {l l' : QL} {b b' : BL} (hl : bareQ l' = bareQ l) (hb : bareB b' = bareB b) : planE c n l' b' = planE c n l b := by rw [← planE_bare, hl, hb, planE_bare]

/-- a right state -/
structure Sound (clock next : Int) (l : QL) (b : BL) : Prop where
  clean : Clean l b
  c0 : 0 ≤ clock
  c48 : clock ≤ 48
  n0 : 0 ≤ next
  n1 : next ≤ 1048576
  rise : ∀ i, i < b.length → leastId b i ≤ (bk b i).id ∧ (bk b i).id < next
  alive : ∀ i, i < b.length → clock < overV (bk b i)
  fits : ∀ q : Nat, q < l.length → ∀ t : Nat, clock ≤ t → t < 48 → useTo l b q t b.length ≤ vals (qu l q).runs t
theorem sound_of {c n : Int} {l : QL} {b : BL} (h : planE c n l b = 0) : Sound c n l b := by
  unfold planE at h
  by_cases h1 : chkL l b = 0
  · rw [if_pos h1] at h
    have hC := clean_of h1
    by_cases h2 : (0 ≤ c ∧ c ≤ 48) ∧ (0 ≤ n ∧ n ≤ 1048576)
    · rw [if_pos h2] at h
      by_cases h3 : risB b n = true
      · rw [if_pos h3] at h
        by_cases h4 : lateB b c = true
        · rw [if_pos h4] at h; cases h
        · rw [if_neg h4] at h
          by_cases h5 : fitsR l b c = true
          · refine ⟨hC, h2.1.1, h2.1.2, h2.2.1, h2.2.2, fun i hi => of_decide_eq_true (allN_iff.1 h3 i hi), fun i hi => ?_, (fits_iff hC h2.1.1 h2.1.2).1 h5⟩
            have h6 : allN (fun i => !decide (overV (bk b i) ≤ c)) b.length = true := by simpa [lateB] using h4
            have h7 := allN_iff.1 h6 i hi
            simp at h7
            exact h7
          · rw [if_neg h5] at h; cases h
      · rw [if_neg h3] at h; cases h
    · rw [if_neg h2] at h; cases h
  · rw [if_neg h1] at h
    exact absurd h h1
theorem planE_ok {c n : Int} {l : QL} {b : BL} (h : Sound c n l b) : planE c n l b = 0 := by
  unfold planE
  have h3 : risB b n = true := allN_iff.2 fun i hi => decide_eq_true (h.rise i hi)
  have h4 : ¬ lateB b c = true := by
    have : allN (fun i => !decide (overV (bk b i) ≤ c)) b.length = true := allN_iff.2 fun i hi => by
      have := h.alive i hi
      simp
      exact this
    simp [lateB, this]
  rw [if_pos (chkL_clean h.clean), if_pos ⟨⟨h.c0, h.c48⟩, h.n0, h.n1⟩, if_pos h3, if_neg h4, if_pos ((fits_iff h.clean h.c0 h.c48).2 h.fits)]
theorem ids_rise {c n : Int} {l : QL} {b : BL} (h : Sound c n l b) : ∀ {j : Nat}, j < b.length → ∀ {i : Nat}, i < j → (bk b i).id < (bk b j).id
  | 0, _, i, hi => by omega
  | j + 1, hj, i, hi => by
    have h1 := (h.rise (j + 1) hj).1
    unfold leastId at h1
    rw [if_neg (by omega), show j + 1 - 1 = j from rfl] at h1
    by_cases e : i = j
    · subst e; omega
    · have := ids_rise h (j := j) (by omega) (i := i) (by omega)
      omega
theorem ids_low {c n : Int} {l : QL} {b : BL} (h : Sound c n l b) {i : Nat} (hi : i < b.length) : 0 ≤ (bk b i).id ∧ (bk b i).id < n := by
  refine ⟨?_, (h.rise i hi).2⟩
  have h1 := (h.rise i hi).1
  unfold leastId at h1
  by_cases e : i = 0
  · rw [if_pos e] at h1; exact h1
  · have h2 := ids_rise h hi (i := 0) (by omega)
    have h3 := (h.rise 0 (by omega)).1
    unfold leastId at h3
    rw [if_pos rfl] at h3
    omega
theorem overV_met {x : Bk} (h : meets x.rq x.bs = true) : overOk x.rq x.bs = true ∧ overV x = overMax x.rq x.bs x.bs.length := by
  have := meets_over h
  exact ⟨this, by unfold overV; rw [if_pos this]⟩
/-- PlanTrue's: of a right state no queue has less room than none, from the clock on -/
theorem room_left {c n : Int} {l : QL} {b : BL} (h : Sound c n l b) {q : Int} (h1 : q < l.length) {t : Nat} (hc : c ≤ t) (ht : t < 48) : 0 ≤ vals (roomR l b q) t := by
  have e := (room_val h.clean (lineOf l q) _ full_fine (line_in (right_of h.clean.tree) h1)).2 t ht
  show 0 ≤ vals (roomTo l (takenTo l b b.length) [(0, 1048576)] (lineOf l q)) t
  rw [e]
  have hv : vals [(0, 1048576)] t = 1048576 := by
    have := (fine_bd full_fine t)
    have hs := full_fine
    obtain ⟨j, hj⟩ := reached_ex hs.rises (t := (t : Int)) (by omega)
    have hv := hj.val hs.rises
    have : j = 0 := by have := hj.1; simp at this; omega
    subst this
    rw [show vals [(0, 1048576)] t = valAt [(0, 1048576)] t from rfl, ← hv]
    rfl
  rw [hv]
  have key : ∀ (ps : List Int) (x : Int), 0 ≤ x → (∀ p ∈ ps, 0 ≤ p ∧ p < l.length) → 0 ≤ minTo l (takenTo l b b.length) t x ps := by
    intro ps
    induction ps with
    | nil => intro x hx _; exact hx
    | cons p ps ih =>
      intro x hx hp
      rw [minTo]
      refine ih _ ?_ (fun y hy => hp y (by simp [hy]))
      have hp0 := hp p (by simp)
      have hf := h.fits p.toNat (by omega) t hc ht
      have hv := ((taken_val h.clean b.length (Nat.le_refl _) p.toNat).2 t ht).1
      unfold leftV
      rw [hv]
      omega
  exact key _ _ (by omega) (line_in (right_of h.clean.tree) h1)
end Go.Proofs.Ytcgchicdmgllaaf
