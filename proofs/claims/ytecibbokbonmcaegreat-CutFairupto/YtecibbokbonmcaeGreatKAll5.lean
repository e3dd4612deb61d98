/- Several texts in one: BookM, AnyD, BookB, AnyE, OwnA, OwnB. -/
import Derived.Test.YtecibbokbonmcaeGreatKAll4
import Derived.Test.YtecibbokbonmcaeGreatKAll3
import Derived.Deep.AppendLies
import Derived.Deep.DeepCutAuto
import Derived.Deep.LoopGhost
import Derived.Lib.AppendZeros
/- Booking, plain: what is submitted is right; what is cancelled leaves room; two ticks are one. -/
namespace Go.Proofs.YtecibbokbonmcaeGreat

theorem bump_val {g : RunL} (hg : Fine g) {a b n : Int} (h : (bumpR g a b n).2 = 0) : Fine (bumpR g a b n).1 ∧ ∀ u : Nat, u < 48 → vals (bumpR g a b n).1 u = bumpV g a b n u := by
  unfold bumpR at h ⊢
  rw [if_pos (fine_iff.2 hg)] at h ⊢
  by_cases hs : (spn a b && bdd n) = true
  · rw [if_pos hs] at h ⊢
    unfold tell at h ⊢
    by_cases ha : allTo (bumpV g a b n) 48 = true
    · rw [if_pos ha]
      exact ⟨foldTo_fine _ 48 (by omega) (by omega) ha, fun u hu => foldTo_val _ ha u hu⟩
    · rw [if_neg ha] at h; cases h
  · rw [if_neg hs] at h; cases h
theorem nOf_at (r : Rq) (b : RunL) (i : Nat) : nOf r b i = nAt r b i := rfl
/-- what is left of f where the bites are taken away -/
theorem held_val {f : RunL} {X : Bk} (hf : Fine f) (hm : meets X.rq X.bs = true) : ∀ {k : Nat} {g : RunL}, k ≤ X.bs.length → heldTo f X.rq X.bs k = some g → Fine g ∧ ∀ u : Nat, u < 48 → vals g u = vals f u - bookTo X u k ∧ (bookTo X u k = 0 ∨ 0 ≤ vals g u)
  | 0, g, _, h => by
    simp [heldTo] at h
    subst h
    exact ⟨hf, fun u _ => by simp [bookTo]⟩
  | k + 1, g, hk, h => by
    rw [heldTo] at h
    cases hn : heldTo f X.rq X.bs k with
    | none => rw [hn] at h; cases h
    | some g0 =>
      rw [hn] at h
      simp only at h
      obtain ⟨i1, i2⟩ := held_val hf hm (k := k) (g := g0) (by omega) hn
      split at h
      · rename_i h1
        split at h
        · rename_i h2
          injection h with h
          subst h
          obtain ⟨j1, j2⟩ := bump_val i1 h1
          obtain ⟨m1, m2, m3, m4, m5, m6, m7, m8⟩ := bite_all hm (show k < X.bs.length by omega)
          have hl := (least_ok j1 m3 m5 m4).2.1 h2.2
          refine ⟨j1, fun u hu => ?_⟩
          have e1 := j2 u hu
          obtain ⟨e2, e3⟩ := i2 u hu
          have hb := (bookTo_bd hm u k (by omega)).1
          rw [bookTo]
          unfold bumpV at e1
          unfold biteV
          have hno : nOf X.rq X.bs k = nAt X.rq X.bs k := rfl
          by_cases hin : rN X.bs k ≤ u ∧ u < rN X.bs k + lenOf X.rq X.bs k
          · rw [if_pos hin] at e1
            rw [if_pos hin]
            have := hl u hin.1 hin.2
            omega
          · rw [if_neg hin] at e1
            rw [if_neg hin]
            omega
        · cases h
      · cases h
theorem bookTo_up {X : Bk} (hm : meets X.rq X.bs = true) (u : Nat) : ∀ {k n : Nat}, k ≤ n → n ≤ X.bs.length → bookTo X u k ≤ bookTo X u n
  | k, 0, h, _ => by obtain rfl : k = 0 := by omega
                     exact Int.le_refl _
  | k, n + 1, h, hn => by
    by_cases e : k = n + 1
    · subst e; exact Int.le_refl _
    · have h1 := bookTo_up hm u (k := k) (n := n) (by omega) (by omega)
      have h2 := (biteV_bd hm (k := n) (by omega) u).1
      rw [bookTo]
      omega
/-- where there is room for all bites together they are held -/
theorem held_of {f : RunL} {X : Bk} (hf : Fine f) (hm : meets X.rq X.bs = true) (hr : ∀ u : Nat, u < 48 → 0 < bookTo X u X.bs.length → bookTo X u X.bs.length ≤ vals f u) : heldB f X.rq X.bs = true := by
  have key : ∀ k, k ≤ X.bs.length → ∃ g, heldTo f X.rq X.bs k = some g := by
    intro k
    induction k with
    | zero => intro _; exact ⟨f, rfl⟩
    | succ k ih =>
      intro hk
      obtain ⟨g, hg⟩ := ih (by omega)
      obtain ⟨i1, i2⟩ := held_val hf hm (by omega) hg
      obtain ⟨m1, m2, m3, m4, m5, m6, m7, m8⟩ := bite_all hm (show k < X.bs.length by omega)
      refine ⟨_, held_next hg i1 ⟨m3, m5, m6, m4, m7, m8⟩ fun u h1 h2 => ?_⟩
      have hu : u < 48 := by omega
      have e1 := (i2 u hu).1
      have h3 : bookTo X u (k + 1) = bookTo X u k + nAt X.rq X.bs k := by
        rw [bookTo]
        unfold biteV
        rw [if_pos ⟨h1, h2⟩]
      have h4 := bookTo_up hm u (k := k + 1) (n := X.bs.length) (by omega) (Nat.le_refl _)
      have h5 := (bookTo_bd hm u k (by omega)).1
      have h6 := hr u hu (by omega)
      rw [nOf_at]
      omega
  obtain ⟨g, hg⟩ := key _ (Nat.le_refl _)
  unfold heldB
  rw [hg]
  rfl
theorem held_room2 {f : RunL} {X : Bk} (hf : Fine f) (hm : meets X.rq X.bs = true) (hh : heldB f X.rq X.bs = true) {u : Nat} (hu : u < 48) : bookTo X u X.bs.length = 0 ∨ bookTo X u X.bs.length ≤ vals f u := by
  unfold heldB at hh
  obtain ⟨g, hg⟩ := Option.isSome_iff_exists.1 hh
  obtain ⟨_, h2⟩ := held_val hf hm (Nat.le_refl _) hg
  obtain ⟨h3, h4⟩ := h2 u hu
  rcases h4 with h4 | h4
  · exact Or.inl h4
  · exact Or.inr (by omega)

/-- a queue's room is no more than what each of its line has left -/
theorem room_le {l : QL} {b : BL} (h : Clean l b) {q : Int} (h1 : q < l.length) {p : Nat} (hp : (p : Int) ∈ lineOf l q) {t : Nat} (ht : t < 48) : vals (roomR l b q) t ≤ vals (qu l p).runs t - useTo l b p t b.length := by
  have e := (room_val h (lineOf l q) _ full_fine (line_in (right_of h.tree) h1)).2 t ht
  show vals (roomTo l (takenTo l b b.length) [(0, 1048576)] (lineOf l q)) t ≤ _
  rw [e]
  have key : ∀ (ps : List Int) (x : Int), minTo l (takenTo l b b.length) t x ps ≤ x ∧ ∀ y ∈ ps, minTo l (takenTo l b b.length) t x ps ≤ leftV l (takenTo l b b.length) y t := by
    intro ps
    induction ps with
    | nil => intro x; exact ⟨Int.le_refl _, fun y hy => by cases hy⟩
    | cons z ps ih =>
      intro x
      rw [minTo]
      obtain ⟨h1, h2⟩ := ih (min x (leftV l (takenTo l b b.length) z t))
      refine ⟨by omega, fun y hy => ?_⟩
      rcases List.mem_cons.1 hy with e | hy
      · subst e; omega
      · exact h2 y hy
  have := (key (lineOf l q) (vals [(0, 1048576)] t)).2 p hp
  unfold leftV at this
  rw [Int.toNat_natCast, ((taken_val h b.length (Nat.le_refl _) p).2 t ht).1] at this
  exact this
/-- and where each of them has so much left the queue has -/
theorem room_ge {l : QL} {b : BL} (h : Clean l b) {q : Int} (h1 : q < l.length) {t : Nat} (ht : t < 48) {x : Int} (hx : x ≤ 1048576) (hp : ∀ p : Nat, (p : Int) ∈ lineOf l q → x ≤ vals (qu l p).runs t - useTo l b p t b.length) : x ≤ vals (roomR l b q) t := by
  have e := (room_val h (lineOf l q) _ full_fine (line_in (right_of h.tree) h1)).2 t ht
  show x ≤ vals (roomTo l (takenTo l b b.length) [(0, 1048576)] (lineOf l q)) t
  rw [e]
  have hv : vals [(0, 1048576)] t = 1048576 := by
    have hs := full_fine
    obtain ⟨j, hj⟩ := reached_ex hs.rises (t := (t : Int)) (by omega)
    have hv := hj.val hs.rises
    have : j = 0 := by have := hj.1; simp at this; omega
    subst this
    rw [show vals [(0, 1048576)] t = valAt [(0, 1048576)] t from rfl, ← hv]
    rfl
  rw [hv]
  have key : ∀ (ps : List Int) (y : Int), x ≤ y → (∀ p ∈ ps, x ≤ leftV l (takenTo l b b.length) p t) → x ≤ minTo l (takenTo l b b.length) t y ps := by
    intro ps
    induction ps with
    | nil => intro y hy _; exact hy
    | cons z ps ih =>
      intro y hy hps
      rw [minTo]
      exact ih _ (by have := hps z (by simp); omega) (fun p hp => hps p (by simp [hp]))
  refine key _ _ hx fun p hpm => ?_
  have hpl := line_in (right_of h.tree) h1 p hpm
  have := hp p.toNat (by rw [Int.toNat_of_nonneg hpl.1]; exact hpm)
  unfold leftV
  rw [((taken_val h b.length (Nat.le_refl _) p.toNat).2 t ht).1]
  exact this

theorem bk_app {b : BL} {x : Bk} {i : Nat} (h : i < b.length) : bk (b ++ [x]) i = bk b i := by unfold bk; simp [List.getD, List.getElem?_append_left h]
theorem bk_end {b : BL} {x : Bk} : bk (b ++ [x]) b.length = x := by unfold bk; simp [List.getD]
/-- H1: what is submitted is right -/
theorem submit_sound {c n : Int} {l : QL} {b : BL} {X : Bk} (h : Sound c n l b) (hid : X.id = n) (hq : chkQR l X.rq = 0) (hfr : c ≤ X.rq.fr) (h12 : b.length < 12) (hn : n < 1048576)
    (hm : meets X.rq X.bs = true) (hh : heldB (roomR l b X.rq.queue) X.rq X.bs = true) : Sound c (n + 1) l (b ++ [X]) := by
  have hchk : chkB l X = 0 := by unfold chkB; rw [if_pos hq, if_pos hm]
  have hcl : Clean l (b ++ [X]) := ⟨h.clean.tree, by simp; omega, fun i hi => by
    by_cases e : i < b.length
    · rw [bk_app e]; exact h.clean.each i e
    · obtain rfl : i = b.length := by simp at hi; omega
      rw [bk_end]; exact hchk⟩
  obtain ⟨_, q0, q1⟩ := no_error_at h.clean.tree hchk
  have hF := room_fine h.clean q1
  have hn0 := h.n0
  refine ⟨hcl, h.c0, h.c48, by omega, by omega, fun i hi => ?_, fun i hi => ?_, fun q hq t ht1 ht2 => ?_⟩
  · by_cases e : i < b.length
    · rw [bk_app e]
      have h1 := h.rise i e
      refine ⟨?_, by omega⟩
      have h2 := h1.1
      unfold leastId at h2 ⊢
      by_cases e0 : i = 0
      · rw [if_pos e0] at h2 ⊢; exact h2
      · rw [if_neg e0] at h2 ⊢
        rw [bk_app (by omega)]
        exact h2
    · obtain rfl : i = b.length := by simp at hi; omega
      rw [bk_end, hid]
      refine ⟨?_, by omega⟩
      unfold leastId
      split
      · exact hn0
      · rename_i e0
        rw [bk_app (by omega)]
        have := (h.rise (b.length - 1) (by omega)).2
        omega
  · by_cases e : i < b.length
    · rw [bk_app e]; exact h.alive i e
    · obtain rfl : i = b.length := by simp at hi; omega
      rw [bk_end, (overV_met hm).2]
      have := meets_bounds hm
      omega
  · rw [use_all, List.map_append, List.sum_append, ← use_all]
    simp only [List.map_cons, List.map_nil, List.sum_cons, List.sum_nil]
    have h1 := h.fits q hq t ht1 ht2
    unfold oneV
    split
    · rename_i hl
      rcases held_room2 hF hm hh ht2 with h2 | h2
      · omega
      · have := room_le h.clean q1 hl ht2
        omega
    · omega

theorem drop_mem {b : BL} {i : Nat} {x : Bk} (h : x ∈ b.take i ++ b.drop (i + 1)) : x ∈ b := by
  rcases List.mem_append.1 h with h | h
  · exact List.mem_of_mem_take h
  · exact List.mem_of_mem_drop h
theorem bk_without {b : BL} {i j : Nat} (hi : i < b.length) : bk (b.take i ++ b.drop (i + 1)) j = if j < i then bk b j else bk b (j + 1) := by
  unfold bk
  rw [List.getD_eq_getElem?_getD, List.getElem?_append]
  have hl : (b.take i).length = i := by simp; omega
  rw [hl]
  by_cases e : j < i
  · rw [if_pos e, if_pos e, List.getElem?_take, if_pos e, List.getD_eq_getElem?_getD]
  · rw [if_neg e, if_neg e, List.getElem?_drop, List.getD_eq_getElem?_getD, show i + 1 + (j - i) = j + 1 from by omega]
/-- a right state without one of its books -/
theorem without_sound {c n : Int} {l : QL} {b : BL} (h : Sound c n l b) {i : Nat} (hi : i < b.length) : Sound c n l (b.take i ++ b.drop (i + 1)) := by
  have hlen : (b.take i ++ b.drop (i + 1)).length = b.length - 1 := by simp; omega
  have hcl : Clean l (b.take i ++ b.drop (i + 1)) := clean_sub h.clean (by have := h.clean.few; omega) (fun x hx => drop_mem hx)
  refine ⟨hcl, h.c0, h.c48, h.n0, h.n1, fun j hj => ?_, fun j hj => ?_, fun q hq t ht1 ht2 => ?_⟩
  · rw [hlen] at hj
    rw [bk_without hi]
    unfold leastId
    rw [bk_without hi]
    by_cases e : j < i
    · rw [if_pos e]
      have h1 := h.rise j (by omega)
      unfold leastId at h1
      by_cases e0 : j = 0
      · rw [if_pos e0] at h1 ⊢; exact h1
      · rw [if_neg e0] at h1 ⊢
        rw [if_pos (by omega)]
        exact h1
    · rw [if_neg e]
      have h1 := h.rise (j + 1) (by omega)
      have h2 := ids_low h (show j + 1 < b.length by omega)
      refine ⟨?_, h1.2⟩
      by_cases e0 : j = 0
      · rw [if_pos e0]; exact h2.1
      · rw [if_neg e0]
        by_cases e1 : j - 1 < i
        · rw [if_pos e1]
          have := ids_rise h (j := j + 1) (by omega) (i := j - 1) (by omega)
          omega
        · rw [if_neg e1, show j - 1 + 1 = j from by omega]
          have := ids_rise h (j := j + 1) (by omega) (i := j) (by omega)
          omega
  · rw [hlen] at hj
    rw [bk_without hi]
    split
    · exact h.alive j (by omega)
    · exact h.alive (j + 1) (by omega)
  · have h1 := h.fits q hq t ht1 ht2
    rw [use_all, sum_parts l q t hi] at h1
    have h2 := (oneV_bd (l := l) (clean_at h.clean (bk_mem hi)).1 q t).1
    rw [use_all]
    omega
/-- BookFree's: without it there is room for what it had -/
theorem free_held {c n : Int} {l : QL} {b : BL} (h : Sound c n l b) {i : Nat} (hi : i < b.length) (hfr : c ≤ (bk b i).rq.fr) : heldB (roomR l (b.take i ++ b.drop (i + 1)) (bk b i).rq.queue) (bk b i).rq (bk b i).bs = true := by
  have hcl := (without_sound h hi).clean
  obtain ⟨hm, q0, q1⟩ := clean_at h.clean (bk_mem hi)
  refine held_of (X := bk b i) (room_fine hcl q1) hm fun u hu hpos => ?_
  have hbd := bookTo_bd hm u (bk b i).bs.length (Nat.le_refl _)
  have hfew := meets_few hm
  have hcu : c ≤ u := by
    -- at u something is taken: a bite began there or sooner, from From on
    have key : ∀ k, k ≤ (bk b i).bs.length → 0 < bookTo (bk b i) u k → (bk b i).rq.fr ≤ u := by
      intro k
      induction k with
      | zero => intro _ h0; simp [bookTo] at h0
      | succ k ih =>
        intro hk h0
        rw [bookTo] at h0
        by_cases h1 : 0 < bookTo (bk b i) u k
        · exact ih (by omega) h1
        · unfold biteV at h0
          split at h0
          · rename_i hin
            have hbo := ((meets_split.1 hm).2.2 k (by omega))
            have := (inTime_at (biteOk_at hbo).2.1).1
            omega
          · omega
    have := key _ (Nat.le_refl _) hpos
    omega
  refine room_ge hcl q1 hu (by omega) fun p hp => ?_
  have hpl := line_in (right_of h.clean.tree) q1 p hp
  have h1 := h.fits p (by omega) u hcu hu
  rw [use_all, sum_parts l p u hi] at h1
  have h2 : oneV l p u (bk b i) = bookTo (bk b i) u (bk b i).bs.length := by unfold oneV; rw [if_pos hp]
  rw [use_all]
  omega
end Go.Proofs.YtecibbokbonmcaeGreat

/- A region that draws its order, as text AnyC; those operations may change whatever lies from block B0 on. -/
namespace Go.Proofs.YtecibbokbonmcaeGreat
open Go.RowKit

/-- number c answers, or stores; what is older than W0 is as it was, and what is not spoilt stands -/
def OpChgB (P : Program) (ops : Array Oper) (o : Oper) (ev : Operand → Value) (B0 : Nat) (W0 w : World) (D : Nat → Value → World → Prop) (dead : List Nat) (c : Nat) : Prop :=
  ∃ v w', ((execOp ev o).run P w = .ok (.value v) w' ∨ (execOp ev o).run P w = .ok .skip w' ∧ v = undef) ∧ (o.dst = none → v = undef) ∧ D c v w' ∧ Below B0 W0 w' ∧ ∀ i, i ≠ c → dead.contains i = false → (behindTo ops c ops.size).contains i = false → ∀ u, D i u w → D i u w'
/-- number i may look at number j: whoever spoils it is number i, or comes behind it -/
def lookB (ops : Array Oper) (cs : List (Nat × List Nat)) (i j : Nat) : Bool := cs.all fun x => !x.2.contains j || (i == x.1) || (behindTo ops i ops.size).contains x.1
theorem lookB_at {ops : Array Oper} {cs : List (Nat × List Nat)} {i j : Nat} (h : lookB ops cs i j = true) {c : Nat} {dead : List Nat} (hx : dd cs c = some dead) (hd : dead.contains j = true) : i = c ∨ c ∈ behindTo ops i ops.size := by
  have h := List.all_eq_true.1 h (c, dead) (dd_mem hx)
  simp only [hd, Bool.not_true, Bool.false_or, Bool.or_eq_true, beq_iff_eq] at h
  rcases h with h | h
  · exact Or.inl h
  · exact Or.inr (List.contains_iff_mem.1 h)
/-- whoever writes is number i, or comes behind it -/
def okW (ops : Array Oper) (cs : List (Nat × List Nat)) (i : Nat) : Bool := cs.all fun x => (i == x.1) || (behindTo ops i ops.size).contains x.1
/-- what is owed of number i -/
def OwedB (P : Program) (ops : Array Oper) (o : Oper) (ev : Operand → Value) (B0 : Nat) (W0 w : World) (D : Nat → Value → World → Prop) (cs : List (Nat × List Nat)) (i : Nat) : Prop := match dd cs i with
  | none => OpDoes P o ev w (D i)
  | some dead => OpChgB P ops o ev B0 W0 w D dead i

structure RInvB (ops : Array Oper) (cs : List (Nat × List Nat)) (B0 : Nat) (W0 : World) (T0 : Array Value) (df : List Deferred) (D : Nat → Value → World → Prop) (listed : Array Bool) (a : Act) (w : World) : Prop where
  size : listed.size = ops.size
  below : Below B0 W0 w
  belowS : (∀ c dead, dd cs c = some dead → listed.getD c false = false) → Below W0.heap.size W0 w
  df : a.defers = df
  tsize : a.tmps.size = T0.size
  old : ∀ d, notDst ops d = true → a.tmps.getD d undef = T0.getD d undef
  got : ∀ i o, ops[i]? = some o → (o.dst ≠ none ∨ dd cs i ≠ none) → listed.getD i false = true → ¬ spoilt cs listed i → D i (slotV o a.tmps) w
  closed : ∀ i o, ops[i]? = some o → listed.getD i false = true → ∀ j, waitsFor o j = true → listed.getD j false = true

theorem wpAny_chgB {P : Program} {ops : Array Oper} {Q : Exit → Act → World → Prop} {W0 : World} {T0 : Array Value} {df : List Deferred} {D : Nat → Value → World → Prop} {gs : List (Nat × Bool)} {cs : List (Nat × List Nat)} {B0 : Nat} (hB0 : B0 ≤ W0.heap.size)
    (hok : regOk ops gs T0.size = true) (hg : ∀ g ∈ gs, ∃ o d, ops[g.1]? = some o ∧ o.dst = some d ∧ ∀ v w, D g.1 v w → v = .bool g.2) (hgl : ∀ g ∈ gs, ∀ i, lookB ops cs i g.1 = true)
    (hD : ∀ i v w w', D i v w → Below w.heap.size w w' → D i v w')
    (hstep : ∀ i o, ops[i]? = some o → ∀ (T : Array Value) (w : World), (okW ops cs i = true → Below W0.heap.size W0 w) → Below B0 W0 w → (∀ d, notDst ops d = true → T.getD d undef = T0.getD d undef) →
      (∀ j oj d, ops[j]? = some oj → oj.dst = some d → waitsFor o j = true → lookB ops cs i j = true → D j (T.getD d undef) w) → OwedB P ops o (Act.eval ⟨T, df⟩) B0 W0 w D cs i)
    (hfin : ∀ (T : Array Value) (w : World), Below B0 W0 w → T.size = T0.size → (∀ d, notDst ops d = true → T.getD d undef = T0.getD d undef) → (∀ i o, ops[i]? = some o → (o.dst ≠ none ∨ dd cs i ≠ none) → spoiltB cs i = false → D i (slotV o T) w) → Q .normal ⟨T, df⟩ w) :
    ∀ (fuel : Nat) (listed : Array Bool) (a : Act) (w : World), unlisted listed ≤ fuel → RInvB ops cs B0 W0 T0 df D listed a w → wpAny P .any ops Q fuel listed a w := by
  have fin : ∀ (listed : Array Bool) (a : Act) (w : World), RInvB ops cs B0 W0 T0 df D listed a w → Region.ready .any ops listed = [] → Q .normal a w := by
    rintro listed ⟨T, ds⟩ w I hr
    obtain rfl : ds = df := I.df
    refine hfin T w I.below I.tsize I.old fun i o ho hd hdd => I.got i o ho hd (all_listed hok I.size hr i (Array.getElem?_eq_some_iff.1 ho).1) ?_
    rintro ⟨c, dead, hx, _, hxi⟩
    have : spoiltB cs i = true := List.any_eq_true.2 ⟨(c, dead), dd_mem hx, hxi⟩
    rw [hdd] at this
    cases this
  intro fuel
  induction fuel with
  | zero =>
    intro listed a w hf I
    have hr : Region.ready .any ops listed = [] := by
      cases hr : Region.ready .any ops listed with
      | nil => rfl
      | cons i l =>
        have : i ∈ Region.ready .any ops listed := by rw [hr]; simp
        have := unlisted_set (mem_ready.1 this).1
        omega
    exact ⟨hr, fin listed a w I hr⟩
  | succ fuel ih =>
    intro listed a w hf I
    refine ⟨fin listed a w I, fun i hi => ?_⟩
    obtain ⟨h0, o, ho, hall⟩ := mem_ready.1 hi
    have hil : i < listed.size := by have := (Array.getElem?_eq_some_iff.1 ho).1; have := I.size; omega
    have h0' : listed.getD i false = false := by simpa [hil] using h0
    have hcount := unlisted_set h0
    obtain ⟨T, ds⟩ := a
    obtain rfl : ds = df := I.df
    have hat := regOk_at hok ho
    have hwt : ∀ j, waitsFor o j = true → listed.getD j false = true := by
      intro j hw
      simp only [waitsFor, List.any_eq_true, Bool.and_eq_true, beq_iff_eq] at hw
      obtain ⟨e, he, hb, rfl⟩ := hw
      exact hall e (by simpa using he) hb
    have hdep : ∀ j oj d, ops[j]? = some oj → oj.dst = some d → waitsFor o j = true → lookB ops cs i j = true → D j (T.getD d undef) w := by
      intro j oj d hj hd hw hk
      have hgot : slotV oj T = T.getD d undef := by unfold slotV; rw [hd]
      rw [← hgot]
      refine I.got _ oj hj (Or.inl (by rw [hd]; simp)) (hwt j hw) ?_
      rintro ⟨c, dead, hx, hc, hdd⟩
      rcases lookB_at hk hx hdd with e | e
      · subst e
        rw [hc] at h0'
        cases h0'
      · rw [behind_listed I.closed e hc] at h0'
        cases h0'
    have hbs : okW ops cs i = true → Below W0.heap.size W0 w := fun hk => I.belowS fun c dead hx => by
      have h1 := List.all_eq_true.1 hk (c, dead) (dd_mem hx)
      simp only [Bool.or_eq_true, beq_iff_eq] at h1
      cases hc : listed.getD c false with
      | false => rfl
      | true =>
        rcases h1 with e | e
        · subst e
          rw [hc] at h0'
          cases h0'
        · rw [behind_listed I.closed (List.contains_iff_mem.1 e) hc] at h0'
          cases h0'
    have hw : Region.wanted o (yielded ops T) = true := by
      unfold Region.wanted
      cases hgd : o.guard with
      | none => rfl
      | some g =>
        obtain ⟨h1, h2⟩ := hat.2.2 g hgd
        obtain ⟨og, d, hog, hdg, hv⟩ := hg g h2
        have := hv _ _ (hdep g.1 og d hog hdg h1 (hgl g h2 i))
        have hdl : d < T.size := Nat.lt_of_lt_of_eq ((regOk_at hok hog).2.1 d hdg) I.tsize.symm
        simp [yielded_of hog hdg hdl this]
    have hset : ∀ m, listed.getD m false = true → (listed.setIfInBounds i true).getD m false = true := fun m hm => by
      by_cases e : i = m
      · subst e
        simp [hil]
      · rw [getD_set_ne false e]; exact hm
    have hclosed : ∀ j oj, ops[j]? = some oj → (listed.setIfInBounds i true).getD j false = true → ∀ k, waitsFor oj k = true → (listed.setIfInBounds i true).getD k false = true := by
      intro j oj hj hl k hk
      by_cases e : i = j
      · subst e
        rw [ho] at hj
        cases hj
        exact hset k (hwt k hk)
      · rw [getD_set_ne false e] at hl
        exact hset k (I.closed j oj hj hl k hk)
    have next : ∀ (v : Value) (w' : World), D i v w' → (o.dst = none → dd cs i ≠ none → v = undef) → Below B0 W0 w' → ((∀ c dead, dd cs c = some dead → (listed.setIfInBounds i true).getD c false = false) → Below W0.heap.size W0 w') → (∀ j, j ≠ i → (∀ dead, dd cs i = some dead → dead.contains j = false) → listed.getD j false = true → ∀ u, D j u w → D j u w') → wpAny P .any ops Q fuel (listed.setIfInBounds i true) (Act.put ⟨T, ds⟩ o.dst v) w' := by
      intro v w' hv hvu hb hbS hkeep
      refine ih _ _ _ (by omega) ?_
      have got' : ∀ j oj, ops[j]? = some oj → (oj.dst ≠ none ∨ dd cs j ≠ none) → i ≠ j → (listed.setIfInBounds i true).getD j false = true → ¬ spoilt cs (listed.setIfInBounds i true) j → D j (slotV oj T) w' := by
        intro j oj hj hdj e hl hdd
        rw [getD_set_ne false e] at hl
        refine hkeep j (Ne.symm e) (fun dead hx => ?_) hl _ (I.got j oj hj hdj hl ?_)
        · cases hc : dead.contains j with
          | false => rfl
          | true => exact absurd ⟨i, dead, hx, by simp [hil], hc⟩ hdd
        · rintro ⟨c, dead, hx, h1, h2⟩
          exact hdd ⟨c, dead, hx, hset _ h1, h2⟩
      cases hd : o.dst with
      | none =>
        refine ⟨by simpa using I.size, hb, hbS, rfl, I.tsize, I.old, fun j oj hj hdj hl hdd => ?_, hclosed⟩
        by_cases e : i = j
        · subst e
          rw [ho] at hj
          cases hj
          have hdn : dd cs i ≠ none := hdj.resolve_left (fun h => h hd)
          have : slotV o (Act.put ⟨T, ds⟩ none v).tmps = undef := by unfold slotV; rw [hd]
          rw [this, ← hvu hd hdn]
          exact hv
        · exact got' j oj hj hdj e hl hdd
      | some d0 =>
        have hd0 : d0 < T.size := Nat.lt_of_lt_of_eq (hat.2.1 d0 hd) I.tsize.symm
        refine ⟨by simpa using I.size, hb, hbS, rfl, by simpa [Act.put] using I.tsize, fun d hnd => ?_, fun j oj hj hdj hl hdd => ?_, hclosed⟩
        · have hne : d0 ≠ d := by
            rintro rfl
            simp only [notDst, Array.all_eq_true_iff_forall_mem] at hnd
            have := hnd o (Array.mem_of_getElem? ho)
            simp [hd] at this
          have := I.old d hnd
          simp only [Act.put] at this ⊢
          rw [← this]
          simp [Array.getElem?_setIfInBounds_ne hne]
        · by_cases e : i = j
          · subst e
            rw [ho] at hj
            cases hj
            unfold slotV
            rw [hd]
            simpa [Act.put, hd0] using hv
          · have := got' j oj hj hdj e hl hdd
            unfold slotV at this ⊢
            cases hjd : oj.dst with
            | none => rw [hjd] at this; exact this
            | some d =>
              have hne : d0 ≠ d := by
                rintro rfl
                exact e (regOk_dst hok ho hj hd hjd)
              rw [hjd] at this
              simp only [Act.put] at this ⊢
              simpa [Array.getElem?_setIfInBounds_ne hne] using this
    unfold wpOp
    simp only [ho, hw, if_true]
    refine Or.inl ?_
    unfold Oper.wp
    have hdo := hstep i o ho T w hbs I.below I.old hdep
    unfold OwedB at hdo
    cases hic : dd cs i with
    | some dead =>
      rw [hic] at hdo
      obtain ⟨v, w', hrun, hvu, hv, hb, hk⟩ := hdo
      have hn := next v w' hv (fun h _ => hvu h) hb (fun hnone => by have := hnone i dead hic; simp [hil] at this) (fun j hj hdd hlj u hu => hk j hj (hdd dead hic) (by
        cases hbb : (behindTo ops i ops.size).contains j with
        | false => rfl
        | true =>
          have := behind_listed I.closed (List.contains_iff_mem.1 hbb) hlj
          rw [this] at h0'
          cases h0') u hu)
      rcases hrun with hrun | ⟨hrun, rfl⟩
      · rw [hrun]
        exact hn
      · rw [hrun]
        exact hn
    | none =>
      rw [hic] at hdo
      rcases hdo with ⟨v, w', hrun, hv, hb⟩ | ⟨f, args, hrun, hc⟩
      · rw [hrun]
        exact next v w' hv (fun _ h => absurd hic h) (I.below.trans (hb.mono (Nat.le_trans hB0 I.below.size))) (fun hnone => by
          have hS := I.belowS fun c dead hx => by
            have h1 := hnone c dead hx
            by_cases e : i = c
            · subst e; rw [hic] at hx; cases hx
            · rwa [getD_set_ne false e] at h1
          exact hS.trans (hb.mono hS.size)) (fun j _ _ _ u hu => hD j u w w' hu hb)
      · rw [hrun]
        refine Calls.mono hc ?_
        rintro e w' ⟨v, rfl, hv, hb⟩
        exact next v w' hv (fun _ h => absurd hic h) (I.below.trans (hb.mono (Nat.le_trans hB0 I.below.size))) (fun hnone => by
          have hS := I.belowS fun c dead hx => by
            have h1 := hnone c dead hx
            by_cases e : i = c
            · subst e; rw [hic] at hx; cases hx
            · rwa [getD_set_ne false e] at h1
          exact hS.trans (hb.mono hS.size)) (fun j _ _ _ u hu => hD j u w w' hu hb)

theorem wp_region_chgB {P : Program} {Q : Exit → Act → World → Prop} {id : Nat} {T0 : Array Value} {df : List Deferred} {w : World} {ops0 : Array Oper} (ops : Array Oper) (heq : ops0 = ops) (Ds : List Des) (gs : List (Nat × Bool)) (cs : List (Nat × List Nat)) (B0 : Nat) (hB0 : B0 ≤ w.heap.size) (hm : P.follows .mixedOrders = true)
    (hok : regOk ops gs T0.size = true) (hgs : gsOk ops gs = true) (hgc : (gs.all fun g => !spoiltB cs g.1) = true) (hg : ∀ g ∈ gs, ∀ v w, desAt Ds g.1 v w → v = .bool g.2)
    (hstep : AllOps (fun i o => ∀ (T : Array Value) (w' : World), (okW ops cs i = true → Below w.heap.size w w') → Below B0 w w' → (∀ d, notDst ops d = true → T.getD d undef = T0.getD d undef) →
      (∀ j d, (dep ops i j d && lookB ops cs i j) = true → desAt Ds j (T.getD d undef) w') → OwedB P ops o (Act.eval ⟨T, df⟩) B0 w w' (desAt Ds) cs i) ops0.toList 0)
    (hfin : ∀ (T : Array Value) (w' : World), Below B0 w w' → T.size = T0.size → (∀ d, notDst ops d = true → T.getD d undef = T0.getD d undef) → (∀ i d, spoiltB cs i = false → dstAt ops i d = true → desAt Ds i (T.getD d undef) w') → (∀ c, noDst ops c = true → (dd cs c).isSome = true → spoiltB cs c = false → desAt Ds c undef w') → Q .normal ⟨T, df⟩ w') :
    (Code.region id ops0 true).wp P Q ⟨T0, df⟩ w := by
  have heq := heq.symm
  subst heq
  have hdep : ∀ (T : Array Value) (w' : World) (i : Nat) (o : Oper), ops[i]? = some o → (∀ j oj d, ops[j]? = some oj → oj.dst = some d → waitsFor o j = true → lookB ops cs i j = true → desAt Ds j (T.getD d undef) w') → ∀ j d, (dep ops i j d && lookB ops cs i j) = true → desAt Ds j (T.getD d undef) w' := by
    intro T w' i o ho hd j d hjj
    rw [Bool.and_eq_true] at hjj
    obtain ⟨hj, hk⟩ := hjj
    unfold dep at hj
    rw [ho] at hj
    cases hoj : ops[j]? with
    | none => rw [hoj] at hj; cases hj
    | some oj =>
      rw [hoj] at hj
      simp only [Bool.and_eq_true, beq_iff_eq] at hj
      exact hd j oj d hoj hj.2 hj.1 hk
  refine wp_region_any hm (wpAny_chgB (W0 := w.drewN 1) (df := df) (D := desAt Ds) (gs := gs) (cs := cs) (B0 := B0) hB0 hok (fun g hgm => ?_) (fun g hgm i => ?_) (fun i v w w' h hb => (Ds.getD i (isV undef)).2 v w w' h hb) (fun i o ho T w' hbS hb ht hd => ?_) (fun T w' hb hs ht hd => ?_) _ _ _ _ ?_ ?_)
  · have := List.all_eq_true.1 hgs g hgm
    cases ho : ops[g.1]? with
    | none => rw [ho] at this; cases this
    | some o =>
      rw [ho] at this
      obtain ⟨d, hd⟩ := Option.isSome_iff_exists.1 this
      exact ⟨o, d, rfl, hd, hg g hgm⟩
  · have h1 := List.all_eq_true.1 hgc g hgm
    refine List.all_eq_true.2 fun x hx => ?_
    cases hc : x.2.contains g.1 with
    | false => rfl
    | true =>
      have : spoiltB cs g.1 = true := List.any_eq_true.2 ⟨x, hx, hc⟩
      rw [this] at h1
      cases h1
  · have := hstep.at i o (by simpa using ho)
    rw [Nat.zero_add] at this
    have h := this T w' (fun hk => (below_drewN (Below.refl _ _) 1).trans (hbS hk)) ((below_drewN (Below.refl _ _) 1).trans hb) ht (hdep T w' i o ho hd)
    unfold OwedB at h ⊢
    cases hic : dd cs i with
    | none => rw [hic] at h; exact h
    | some dead =>
      rw [hic] at h
      obtain ⟨v, w'', h1, h1', h2, h3, h4⟩ := h
      exact ⟨v, w'', h1, h1', h2, ⟨h3.os, h3.tape, h3.output, h3.size, h3.block⟩, h4⟩
  · refine hfin T w' ((below_drewN (Below.refl _ _) 1).trans hb) hs ht (fun i d hdd hi => ?_) (fun c hn hs hdd => ?_)
    · unfold dstAt at hi
      cases ho : ops[i]? with
      | none => rw [ho] at hi; cases hi
      | some o =>
        rw [ho] at hi
        have hdo : o.dst = some d := by simpa using hi
        have := hd i o ho (Or.inl (by rw [hdo]; simp)) hdd
        unfold slotV at this
        rw [hdo] at this
        exact this
    · unfold noDst at hn
      cases ho : ops[c]? with
      | none => rw [ho] at hn; cases hn
      | some o =>
        rw [ho] at hn
        have hdo : o.dst = none := by simpa using hn
        have := hd c o ho (Or.inr (by intro h; rw [h] at hs; cases hs)) hdd
        unfold slotV at this
        rw [hdo] at this
        exact this
  · simp [unlisted]
  · exact ⟨by simp, Below.refl _ _, fun _ => Below.refl _ _, rfl, rfl, fun _ _ => rfl, fun i o ho _ hl => by
      have hi : i < ops.size := (Array.getElem?_eq_some_iff.1 ho).1
      simp [hi] at hl, fun i o ho hl => by
      have hi : i < ops.size := (Array.getElem?_eq_some_iff.1 ho).1
      simp [hi] at hl⟩
end Go.Proofs.YtecibbokbonmcaeGreat

/- Contract of book.Submit. -/
namespace Go.Proofs.YtecibbokbonmcaeGreat
open Go.RowKit

theorem OwnBks.later0 {w w' : World} {B : Nat} {v : Value} {b : BL} (h : OwnBks w B v b) (hb : Below w.heap.size w w') : OwnBks w' B v b := h.later hb
/-- a book was put behind the others, in a row of the call's own: W3 is the world ahead of it; B is another block -/
structure Made (Z W3 : World) (L S B : Nat) (aa : Option Addr) (bn k3 : Nat) (b' : BL) (X : Bk) (g9 k9 : Nat) : Prop where
  own : OwnBks Z S (.slice (some ⟨g9, 0, none⟩) (bn + 1) k9) (b' ++ [X])
  len : bn = b'.length
  ne : g9 ≠ B
  low : S ≤ g9
  blk : ∀ k, k < W3.heap.size → some k ≠ (Value.slice aa bn k3).ownBlock → Z.heap[k]? = W3.heap[k]?
  size : W3.heap.size ≤ Z.heap.size
  offP : ∀ i, i < (b' ++ [X]).length → 0 < (bk (b' ++ [X]) i).rq.pn → ∀ g off, (bk (b' ++ [X]) i).rq.pa = some ⟨g, off, none⟩ → L ≤ g ∧ g ≠ B
  offB : ∀ i, i < (b' ++ [X]).length → 0 < (bk (b' ++ [X]) i).bn → ∀ g off, (bk (b' ++ [X]) i).ba = some ⟨g, off, none⟩ → L ≤ g ∧ g ≠ B
theorem Made.later {Z Y W3 : World} {L S B : Nat} {aa : Option Addr} {bn k3 : Nat} {b' : BL} {X : Bk} {g9 k9 : Nat} (h : Made Z W3 L S B aa bn k3 b' X g9 k9) (hb : Below Z.heap.size Z Y) : Made Y W3 L S B aa bn k3 b' X g9 k9 :=
  ⟨h.own.later hb, h.len, h.ne, h.low, fun k hk hk2 => (hb.block k (by have := h.size; omega)).trans (h.blk k hk hk2), Nat.le_trans h.size hb.size, h.offP, h.offB⟩
theorem made_by (w' W3 : World) (L S B : Nat) (aa : Option Addr) (bn k3 : Nat) (b' : BL) (X : Bk) (gL : Nat) (ty : TypeId) (hO : OwnBks W3 S (.slice aa bn k3) b') (hb : Below W3.heap.size W3 w')
    (hL : w'.heap[gL]? = some (.cells #[.int .i64 X.id, .int .i64 X.rq.queue, .int .i64 X.rq.fr, .int .i64 X.rq.un, .int .i64 X.rq.kind, .slice X.rq.pa X.rq.pn X.rq.pc, .slice X.ba X.bn X.bc] 43 (0, 0)))
    (hbn : bn = b'.length) (h12 : bn ≤ 12) (hS : S ≤ W3.heap.size) (hB : B < W3.heap.size) (hr : RunsIn w' X.rq.pa X.rq.pn X.rq.pc X.rq.ps)
    (hfB : ∀ i, i < b'.length → (0 < (bk b' i).rq.pn → ∀ g off, (bk b' i).rq.pa = some ⟨g, off, none⟩ → L ≤ g ∧ g ≠ B) ∧ (0 < (bk b' i).bn → ∀ g off, (bk b' i).ba = some ⟨g, off, none⟩ → L ≤ g ∧ g ≠ B)) (hLS : L ≤ S)
    (hpn : 0 < X.rq.pn → ∀ b off, X.rq.pa = some ⟨b, off, none⟩ → W3.heap.size ≤ b) (hrow : ∀ g, (Value.slice aa bn k3).ownBlock = some g → g ≠ B ∧ g < W3.heap.size)
    (hXb : 0 < X.bn → ∀ b off, X.ba = some ⟨b, off, none⟩ → (L ≤ b ∧ b ≠ B) ∧ b < W3.heap.size ∧ (Value.slice aa bn k3).ownBlock ≠ some b) (hbt : RunsIn w' X.ba X.bn X.bc X.bs) :
    ∃ g9 k9 w'', (Builtin.append_ #[23, 23] ty #[.slice aa bn k3, .slice (some ⟨gL, 0, none⟩) 1 1]).run Tryz.prog w' = .ok (.slice (some ⟨g9, 0, none⟩) (bn + 1) k9) w'' ∧ Made w'' W3 L S B aa bn k3 b' X g9 k9 ∧ Below S W3 w'' := by
  subst hbn
  obtain ⟨i0, hi, e⟩ := Option.map_eq_some_iff.1 infoBook
  simp only [Prod.mk.injEq] at e
  obtain ⟨e1, e2, e3⟩ := e
  have hO' := hO.later hb
  obtain ⟨g9, k9, w'', h1, h2, h3, h4, h5⟩ := run_append_lies w' 23 ty S 43 i0 _ 7 88 Tryz.underlying23 hi e1 e2 e3 (by rfl) (by omega) (.slice aa b'.length k3) b'.length (bkCells b') hO'.row ⟨gL, 0, none⟩ 1 1 (bkCell X) (by simp [bkCell])
    (fun j u hu => by rw [Addr.add_lit, Nat.zero_add, cell_of_row w' gL j _ _ _ hL]; simpa [bkCell] using hu) (fun u hu => bkCells_one [X] u (by simpa [bkCells] using hu)) (by omega) (by simp only [maxLen]; omega) (by omega) (Nat.le_trans hS hb.size) w'.heap.size rfl
  have hlow := h2.lt g9 rfl
  have hg9 : (Value.slice aa b'.length k3).ownBlock = some g9 ∨ w'.heap.size ≤ g9 := by
    rcases h4 with h4 | h4
    · exact Or.inl h4
    · exact Or.inr (by omega)
  have hkeep : ∀ {a : Option Addr} {n cap : Nat} {l : RunL}, RunsIn w' a n cap l → (0 < n → ∀ b off, a = some ⟨b, off, none⟩ → (Value.slice aa b'.length k3).ownBlock ≠ some b) → RunsIn w'' a n cap l := fun h hn => h.of_away fun hp b off e => h3.block b (h.lt hp e) (fun e2 => hn hp b off e e2.symm)
  have hsz := hb.size
  have hXp : 0 < X.rq.pn → ∀ b off, X.rq.pa = some ⟨b, off, none⟩ → (Value.slice aa b'.length k3).ownBlock ≠ some b := fun hp b off e e2 => by have := hpn hp b off e; have := (hrow b e2).2; omega
  refine ⟨g9, k9, w'', h1, ⟨⟨?_, fun i hi => ?_, fun i hi => ?_, fun i hi hp g off e e2 => ?_, fun i hi hp g off e e2 => ?_⟩, rfl, ?_, hlow.1, fun k hk hk2 => ?_, Nat.le_trans hsz h3.size, fun i hi => ?_, fun i hi => ?_⟩, ?_⟩
  · rw [List.length_append, List.length_singleton, bkCells_app]
    have : bkCells [X] = bkCell X := by simp [bkCells]
    rw [this]
    exact h2
  · by_cases e : i < b'.length
    · rw [bk_app e]; exact hkeep (hO'.rqs i e) (hO'.farP i e)
    · obtain rfl : i = b'.length := by simp at hi; omega
      rw [bk_end]; exact hkeep hr hXp
  · by_cases e : i < b'.length
    · rw [bk_app e]; exact hkeep (hO'.bites i e) (hO'.farB i e)
    · obtain rfl : i = b'.length := by simp at hi; omega
      rw [bk_end]; exact hkeep hbt (fun hp b off e => (hXb hp b off e).2.2)
  · have e2 : g9 = g := by simpa [Value.ownBlock] using e2
    subst e2
    by_cases e3 : i < b'.length
    · rw [bk_app e3] at hp e
      rcases hg9 with h | h
      · exact hO'.farP i e3 hp g9 off e h
      · have := RunsIn.lt (hO'.rqs i e3) hp e; omega
    · obtain rfl : i = b'.length := by simp at hi; omega
      rw [bk_end] at hp e
      rcases hg9 with h | h
      · exact hXp hp g9 off e h
      · have := hr.lt hp e; omega
  · have e2 : g9 = g := by simpa [Value.ownBlock] using e2
    subst e2
    by_cases e3 : i < b'.length
    · rw [bk_app e3] at hp e
      rcases hg9 with h | h
      · exact hO'.farB i e3 hp g9 off e h
      · have := (hO'.bites i e3).lt hp e; omega
    · obtain rfl : i = b'.length := by simp at hi; omega
      rw [bk_end] at hp e
      rcases hg9 with h | h
      · exact (hXb hp g9 off e).2.2 h
      · have := hbt.lt hp e; omega
  · rcases hg9 with h | h
    · exact (hrow g9 h).1
    · omega
  · rw [h3.block k (by omega) hk2]
    exact hb.block k hk
  · by_cases e : i < b'.length
    · rw [bk_app e]; exact (hfB i e).1
    · obtain rfl : i = b'.length := by simp at hi; omega
      rw [bk_end]
      intro hp g off e2
      have := hpn hp g off e2
      omega
  · by_cases e : i < b'.length
    · rw [bk_app e]; exact (hfB i e).2
    · obtain rfl : i = b'.length := by simp at hi; omega
      rw [bk_end]
      exact fun hp g off e2 => (hXb hp g off e2).1
  · exact (hb.mono hS).grown h3 (Nat.le_trans hS hsz) (fun k e => (hO'.row.lt k e).1)
/-- and its slice is laid in the state's box B -/
structure Made2 (Z W3 : World) (L S B : Nat) (aa : Option Addr) (bn k3 : Nat) (b' : BL) (X : Bk) (g9 k9 : Nat) (c n : Int) (tv : Value) : Prop where
  own : OwnBks Z S (.slice (some ⟨g9, 0, none⟩) (bn + 1) k9) (b' ++ [X])
  len : bn = b'.length
  low : S ≤ g9
  box : StBox Z B (.int .i64 c) (.int .i64 n) tv (.slice (some ⟨g9, 0, none⟩) (bn + 1) k9)
  blk : ∀ k, k < W3.heap.size → k ≠ B → some k ≠ (Value.slice aa bn k3).ownBlock → Z.heap[k]? = W3.heap[k]?
  size : W3.heap.size ≤ Z.heap.size
  ne : g9 ≠ B
  offP : ∀ i, i < (b' ++ [X]).length → 0 < (bk (b' ++ [X]) i).rq.pn → ∀ g off, (bk (b' ++ [X]) i).rq.pa = some ⟨g, off, none⟩ → L ≤ g ∧ g ≠ B
  offB : ∀ i, i < (b' ++ [X]).length → 0 < (bk (b' ++ [X]) i).bn → ∀ g off, (bk (b' ++ [X]) i).ba = some ⟨g, off, none⟩ → L ≤ g ∧ g ≠ B
theorem Made2.later {Z Y W3 : World} {L S B : Nat} {aa : Option Addr} {bn k3 : Nat} {b' : BL} {X : Bk} {g9 k9 : Nat} {c n : Int} {tv : Value} (h : Made2 Z W3 L S B aa bn k3 b' X g9 k9 c n tv) (hb : Below Z.heap.size Z Y) : Made2 Y W3 L S B aa bn k3 b' X g9 k9 c n tv :=
  ⟨h.own.later hb, h.len, h.low, h.box.later hb, fun k hk hk2 hk3 => (hb.block k (by have := h.size; omega)).trans (h.blk k hk hk2 hk3), Nat.le_trans h.size hb.size, h.ne, h.offP, h.offB⟩
theorem Made.store {Z W3 : World} {L S B : Nat} {aa : Option Addr} {bn k3 : Nat} {b' : BL} {X : Bk} {g9 k9 : Nat} (h : Made Z W3 L S B aa bn k3 b' X g9 k9) (hb : Below S W3 Z) {c n : Int} {tv : Value} (hx : StBox W3 B (.int .i64 c) (.int .i64 n) tv (.slice aa bn k3) ∧ some B ≠ (Value.slice aa bn k3).ownBlock) (hB : S ≤ B ∧ B < W3.heap.size) :
    Made2 (Z.setCell ⟨B, 3, none⟩ (.slice (some ⟨g9, 0, none⟩) (bn + 1) k9)) W3 L S B aa bn k3 b' X g9 k9 c n tv ∧ Z.cell? ⟨B, 3, none⟩ = some (.slice aa bn k3) ∧ Z.frozen? ⟨B, 3, none⟩ = false ∧ Below S W3 (Z.setCell ⟨B, 3, none⟩ (.slice (some ⟨g9, 0, none⟩) (bn + 1) k9)) := by
  have hz : StBox Z B (.int .i64 c) (.int .i64 n) tv (.slice aa bn k3) := (h.blk B hB.2 hx.2).trans hx.1
  refine ⟨⟨?_, h.len, h.low, ?_, fun k hk hk2 hk3 => ?_, ?_, h.ne, h.offP, h.offB⟩, hz.cells.2.2.2, frozen_of_row Z B 3 _ _ hz, hb.setCell (p := ⟨B, 3, none⟩) hB.1 _⟩
  · refine h.own.blocks (fun g e => heap_setCell_other Z ⟨B, 3, none⟩ g _ ?_) (fun i hi hp g off e => heap_setCell_other Z ⟨B, 3, none⟩ g _ (h.offP i hi hp g off e).2) (fun i hi hp g off e => heap_setCell_other Z ⟨B, 3, none⟩ g _ (h.offB i hi hp g off e).2)
    have e : g9 = g := by simpa [Value.ownBlock] using e
    subst e
    exact h.ne
  · unfold StBox
    rw [heap_setCell_same Z B 3 _ _ _ hz]
    rfl
  · rw [heap_setCell_other Z ⟨B, 3, none⟩ k _ hk2]
    exact h.blk k hk hk3
  · have := h.size
    simp only [World.setCell, Array.size_modify]
    omega
end Go.Proofs.YtecibbokbonmcaeGreat

/- A region that draws its order, as text AnyD; a slot may be read by operations that come ahead of the one that writes it. -/
namespace Go.Proofs.YtecibbokbonmcaeGreat
open Go.RowKit

/-- whoever writes slot d is number i, or comes behind it -/
def ahd (ops : Array Oper) (i d : Nat) : Bool := (List.range ops.size).all fun j => match ops[j]? with
  | some o => o.dst != some d || (j == i) || (behindTo ops i ops.size).contains j
  | none => true
theorem ahd_at {ops : Array Oper} {i d : Nat} (h : ahd ops i d = true) {j : Nat} {o : Oper} (hj : ops[j]? = some o) (hd : o.dst = some d) : j = i ∨ j ∈ behindTo ops i ops.size := by
  have h1 := List.all_eq_true.1 h j (List.mem_range.2 (Array.getElem?_eq_some_iff.1 hj).1)
  rw [hj] at h1
  simp only [hd, bne_self_eq_false, Bool.false_or, Bool.or_eq_true, beq_iff_eq] at h1
  rcases h1 with h1 | h1
  · exact Or.inl h1
  · exact Or.inr (List.contains_iff_mem.1 h1)
theorem notDst_not {ops : Array Oper} {d : Nat} (h : notDst ops d = true) {i : Nat} {o : Oper} (ho : ops[i]? = some o) (hd : o.dst = some d) {p : Prop} : p := by
  simp only [notDst, Array.all_eq_true_iff_forall_mem] at h
  have := h o (Array.mem_of_getElem? ho)
  simp [hd] at this

structure RInvE (ops : Array Oper) (cs : List (Nat × List Nat)) (B0 : Nat) (W0 : World) (T0 : Array Value) (df : List Deferred) (D : Nat → Value → World → Prop) (listed : Array Bool) (a : Act) (w : World) : Prop where
  size : listed.size = ops.size
  below : Below B0 W0 w
  belowS : (∀ c dead, dd cs c = some dead → listed.getD c false = false) → Below W0.heap.size W0 w
  df : a.defers = df
  tsize : a.tmps.size = T0.size
  old : ∀ d, (∀ i o, ops[i]? = some o → o.dst = some d → listed.getD i false = false) → a.tmps.getD d undef = T0.getD d undef
  got : ∀ i o, ops[i]? = some o → (o.dst ≠ none ∨ dd cs i ≠ none) → listed.getD i false = true → ¬ spoilt cs listed i → D i (slotV o a.tmps) w
  closed : ∀ i o, ops[i]? = some o → listed.getD i false = true → ∀ j, waitsFor o j = true → listed.getD j false = true

theorem wpAny_chgE {P : Program} {ops : Array Oper} {Q : Exit → Act → World → Prop} {W0 : World} {T0 : Array Value} {df : List Deferred} {D : Nat → Value → World → Prop} {gs : List (Nat × Bool)} {cs : List (Nat × List Nat)} {B0 : Nat} (hB0 : B0 ≤ W0.heap.size)
    (hok : regOk ops gs T0.size = true) (hg : ∀ g ∈ gs, ∃ o d, ops[g.1]? = some o ∧ o.dst = some d ∧ ∀ v w, D g.1 v w → v = .bool g.2) (hgl : ∀ g ∈ gs, ∀ i, lookB ops cs i g.1 = true)
    (hD : ∀ i v w w', D i v w → Below w.heap.size w w' → D i v w')
    (hstep : ∀ i o, ops[i]? = some o → ∀ (T : Array Value) (w : World), (okW ops cs i = true → Below W0.heap.size W0 w) → Below B0 W0 w → (∀ d, ahd ops i d = true → T.getD d undef = T0.getD d undef) →
      (∀ j oj d, ops[j]? = some oj → oj.dst = some d → waitsFor o j = true → lookB ops cs i j = true → D j (T.getD d undef) w) → OwedB P ops o (Act.eval ⟨T, df⟩) B0 W0 w D cs i)
    (hfin : ∀ (T : Array Value) (w : World), Below B0 W0 w → T.size = T0.size → (∀ d, notDst ops d = true → T.getD d undef = T0.getD d undef) → (∀ i o, ops[i]? = some o → (o.dst ≠ none ∨ dd cs i ≠ none) → spoiltB cs i = false → D i (slotV o T) w) → Q .normal ⟨T, df⟩ w) :
    ∀ (fuel : Nat) (listed : Array Bool) (a : Act) (w : World), unlisted listed ≤ fuel → RInvE ops cs B0 W0 T0 df D listed a w → wpAny P .any ops Q fuel listed a w := by
  have fin : ∀ (listed : Array Bool) (a : Act) (w : World), RInvE ops cs B0 W0 T0 df D listed a w → Region.ready .any ops listed = [] → Q .normal a w := by
    rintro listed ⟨T, ds⟩ w I hr
    obtain rfl : ds = df := I.df
    refine hfin T w I.below I.tsize (fun d hnd => I.old d fun i o ho hd => notDst_not hnd ho hd) fun i o ho hd hdd => I.got i o ho hd (all_listed hok I.size hr i (Array.getElem?_eq_some_iff.1 ho).1) ?_
    rintro ⟨c, dead, hx, _, hxi⟩
    have : spoiltB cs i = true := List.any_eq_true.2 ⟨(c, dead), dd_mem hx, hxi⟩
    rw [hdd] at this
    cases this
  intro fuel
  induction fuel with
  | zero =>
    intro listed a w hf I
    have hr : Region.ready .any ops listed = [] := by
      cases hr : Region.ready .any ops listed with
      | nil => rfl
      | cons i l =>
        have : i ∈ Region.ready .any ops listed := by rw [hr]; simp
        have := unlisted_set (mem_ready.1 this).1
        omega
    exact ⟨hr, fin listed a w I hr⟩
  | succ fuel ih =>
    intro listed a w hf I
    refine ⟨fin listed a w I, fun i hi => ?_⟩
    obtain ⟨h0, o, ho, hall⟩ := mem_ready.1 hi
    have hil : i < listed.size := by have := (Array.getElem?_eq_some_iff.1 ho).1; have := I.size; omega
    have h0' : listed.getD i false = false := by simpa [hil] using h0
    have hcount := unlisted_set h0
    obtain ⟨T, ds⟩ := a
    obtain rfl : ds = df := I.df
    have hat := regOk_at hok ho
    have hwt : ∀ j, waitsFor o j = true → listed.getD j false = true := by
      intro j hw
      simp only [waitsFor, List.any_eq_true, Bool.and_eq_true, beq_iff_eq] at hw
      obtain ⟨e, he, hb, rfl⟩ := hw
      exact hall e (by simpa using he) hb
    have hdep : ∀ j oj d, ops[j]? = some oj → oj.dst = some d → waitsFor o j = true → lookB ops cs i j = true → D j (T.getD d undef) w := by
      intro j oj d hj hd hw hk
      have hgot : slotV oj T = T.getD d undef := by unfold slotV; rw [hd]
      rw [← hgot]
      refine I.got _ oj hj (Or.inl (by rw [hd]; simp)) (hwt j hw) ?_
      rintro ⟨c, dead, hx, hc, hdd⟩
      rcases lookB_at hk hx hdd with e | e
      · subst e
        rw [hc] at h0'
        cases h0'
      · rw [behind_listed I.closed e hc] at h0'
        cases h0'
    have hbs : okW ops cs i = true → Below W0.heap.size W0 w := fun hk => I.belowS fun c dead hx => by
      have h1 := List.all_eq_true.1 hk (c, dead) (dd_mem hx)
      simp only [Bool.or_eq_true, beq_iff_eq] at h1
      cases hc : listed.getD c false with
      | false => rfl
      | true =>
        rcases h1 with e | e
        · subst e
          rw [hc] at h0'
          cases h0'
        · rw [behind_listed I.closed (List.contains_iff_mem.1 e) hc] at h0'
          cases h0'
    have hw : Region.wanted o (yielded ops T) = true := by
      unfold Region.wanted
      cases hgd : o.guard with
      | none => rfl
      | some g =>
        obtain ⟨h1, h2⟩ := hat.2.2 g hgd
        obtain ⟨og, d, hog, hdg, hv⟩ := hg g h2
        have := hv _ _ (hdep g.1 og d hog hdg h1 (hgl g h2 i))
        have hdl : d < T.size := Nat.lt_of_lt_of_eq ((regOk_at hok hog).2.1 d hdg) I.tsize.symm
        simp [yielded_of hog hdg hdl this]
    have hset : ∀ m, listed.getD m false = true → (listed.setIfInBounds i true).getD m false = true := fun m hm => by
      by_cases e : i = m
      · subst e
        simp [hil]
      · rw [getD_set_ne false e]; exact hm
    have hclosed : ∀ j oj, ops[j]? = some oj → (listed.setIfInBounds i true).getD j false = true → ∀ k, waitsFor oj k = true → (listed.setIfInBounds i true).getD k false = true := by
      intro j oj hj hl k hk
      by_cases e : i = j
      · subst e
        rw [ho] at hj
        cases hj
        exact hset k (hwt k hk)
      · rw [getD_set_ne false e] at hl
        exact hset k (I.closed j oj hj hl k hk)
    have next : ∀ (v : Value) (w' : World), D i v w' → (o.dst = none → dd cs i ≠ none → v = undef) → Below B0 W0 w' → ((∀ c dead, dd cs c = some dead → (listed.setIfInBounds i true).getD c false = false) → Below W0.heap.size W0 w') → (∀ j, j ≠ i → (∀ dead, dd cs i = some dead → dead.contains j = false) → listed.getD j false = true → ∀ u, D j u w → D j u w') → wpAny P .any ops Q fuel (listed.setIfInBounds i true) (Act.put ⟨T, ds⟩ o.dst v) w' := by
      intro v w' hv hvu hb hbS hkeep
      refine ih _ _ _ (by omega) ?_
      have got' : ∀ j oj, ops[j]? = some oj → (oj.dst ≠ none ∨ dd cs j ≠ none) → i ≠ j → (listed.setIfInBounds i true).getD j false = true → ¬ spoilt cs (listed.setIfInBounds i true) j → D j (slotV oj T) w' := by
        intro j oj hj hdj e hl hdd
        rw [getD_set_ne false e] at hl
        refine hkeep j (Ne.symm e) (fun dead hx => ?_) hl _ (I.got j oj hj hdj hl ?_)
        · cases hc : dead.contains j with
          | false => rfl
          | true => exact absurd ⟨i, dead, hx, by simp [hil], hc⟩ hdd
        · rintro ⟨c, dead, hx, h1, h2⟩
          exact hdd ⟨c, dead, hx, hset _ h1, h2⟩
      cases hd : o.dst with
      | none =>
        refine ⟨by simpa using I.size, hb, hbS, rfl, I.tsize, fun d hnd => I.old d (fun j oj hj hdj => by
          have := hnd j oj hj hdj
          by_cases e : i = j
          · subst e; exact h0'
          · rwa [getD_set_ne false e] at this), fun j oj hj hdj hl hdd => ?_, hclosed⟩
        by_cases e : i = j
        · subst e
          rw [ho] at hj
          cases hj
          have hdn : dd cs i ≠ none := hdj.resolve_left (fun h => h hd)
          have : slotV o (Act.put ⟨T, ds⟩ none v).tmps = undef := by unfold slotV; rw [hd]
          rw [this, ← hvu hd hdn]
          exact hv
        · exact got' j oj hj hdj e hl hdd
      | some d0 =>
        have hd0 : d0 < T.size := Nat.lt_of_lt_of_eq (hat.2.1 d0 hd) I.tsize.symm
        refine ⟨by simpa using I.size, hb, hbS, rfl, by simpa [Act.put] using I.tsize, fun d hnd => ?_, fun j oj hj hdj hl hdd => ?_, hclosed⟩
        · have hne : d0 ≠ d := by
            rintro rfl
            have := hnd i o ho hd
            simp [hil] at this
          have := I.old d (fun j oj hj hdj => by
            have := hnd j oj hj hdj
            by_cases e : i = j
            · subst e; exact h0'
            · rwa [getD_set_ne false e] at this)
          simp only [Act.put] at this ⊢
          rw [← this]
          simp [Array.getElem?_setIfInBounds_ne hne]
        · by_cases e : i = j
          · subst e
            rw [ho] at hj
            cases hj
            unfold slotV
            rw [hd]
            simpa [Act.put, hd0] using hv
          · have := got' j oj hj hdj e hl hdd
            unfold slotV at this ⊢
            cases hjd : oj.dst with
            | none => rw [hjd] at this; exact this
            | some d =>
              have hne : d0 ≠ d := by
                rintro rfl
                exact e (regOk_dst hok ho hj hd hjd)
              rw [hjd] at this
              simp only [Act.put] at this ⊢
              simpa [Array.getElem?_setIfInBounds_ne hne] using this
    unfold wpOp
    simp only [ho, hw, if_true]
    refine Or.inl ?_
    unfold Oper.wp
    have hdo := hstep i o ho T w hbs I.below (fun d hd => I.old d fun j oj hj hdj => by
      cases hl : listed.getD j false with
      | false => rfl
      | true =>
        rcases ahd_at hd hj hdj with e | e
        · subst e
          rw [hl] at h0'
          cases h0'
        · rw [behind_listed I.closed e hl] at h0'
          cases h0') hdep
    unfold OwedB at hdo
    cases hic : dd cs i with
    | some dead =>
      rw [hic] at hdo
      obtain ⟨v, w', hrun, hvu, hv, hb, hk⟩ := hdo
      have hn := next v w' hv (fun h _ => hvu h) hb (fun hnone => by have := hnone i dead hic; simp [hil] at this) (fun j hj hdd hlj u hu => hk j hj (hdd dead hic) (by
        cases hbb : (behindTo ops i ops.size).contains j with
        | false => rfl
        | true =>
          have := behind_listed I.closed (List.contains_iff_mem.1 hbb) hlj
          rw [this] at h0'
          cases h0') u hu)
      rcases hrun with hrun | ⟨hrun, rfl⟩
      · rw [hrun]
        exact hn
      · rw [hrun]
        exact hn
    | none =>
      rw [hic] at hdo
      rcases hdo with ⟨v, w', hrun, hv, hb⟩ | ⟨f, args, hrun, hc⟩
      · rw [hrun]
        exact next v w' hv (fun _ h => absurd hic h) (I.below.trans (hb.mono (Nat.le_trans hB0 I.below.size))) (fun hnone => by
          have hS := I.belowS fun c dead hx => by
            have h1 := hnone c dead hx
            by_cases e : i = c
            · subst e; rw [hic] at hx; cases hx
            · rwa [getD_set_ne false e] at h1
          exact hS.trans (hb.mono hS.size)) (fun j _ _ _ u hu => hD j u w w' hu hb)
      · rw [hrun]
        refine Calls.mono hc ?_
        rintro e w' ⟨v, rfl, hv, hb⟩
        exact next v w' hv (fun _ h => absurd hic h) (I.below.trans (hb.mono (Nat.le_trans hB0 I.below.size))) (fun hnone => by
          have hS := I.belowS fun c dead hx => by
            have h1 := hnone c dead hx
            by_cases e : i = c
            · subst e; rw [hic] at hx; cases hx
            · rwa [getD_set_ne false e] at h1
          exact hS.trans (hb.mono hS.size)) (fun j _ _ _ u hu => hD j u w w' hu hb)

theorem wp_region_chgE {P : Program} {Q : Exit → Act → World → Prop} {id : Nat} {T0 : Array Value} {df : List Deferred} {w : World} {ops0 : Array Oper} (ops : Array Oper) (heq : ops0 = ops) (Ds : List Des) (gs : List (Nat × Bool)) (cs : List (Nat × List Nat)) (B0 : Nat) (hB0 : B0 ≤ w.heap.size) (hm : P.follows .mixedOrders = true)
    (hok : regOk ops gs T0.size = true) (hgs : gsOk ops gs = true) (hgc : (gs.all fun g => !spoiltB cs g.1) = true) (hg : ∀ g ∈ gs, ∀ v w, desAt Ds g.1 v w → v = .bool g.2)
    (hstep : AllOps (fun i o => ∀ (T : Array Value) (w' : World), (okW ops cs i = true → Below w.heap.size w w') → Below B0 w w' → (∀ d, ahd ops i d = true → T.getD d undef = T0.getD d undef) →
      (∀ j d, (dep ops i j d && lookB ops cs i j) = true → desAt Ds j (T.getD d undef) w') → OwedB P ops o (Act.eval ⟨T, df⟩) B0 w w' (desAt Ds) cs i) ops0.toList 0)
    (hfin : ∀ (T : Array Value) (w' : World), Below B0 w w' → T.size = T0.size → (∀ d, notDst ops d = true → T.getD d undef = T0.getD d undef) → (∀ i d, spoiltB cs i = false → dstAt ops i d = true → desAt Ds i (T.getD d undef) w') → (∀ c, noDst ops c = true → (dd cs c).isSome = true → spoiltB cs c = false → desAt Ds c undef w') → Q .normal ⟨T, df⟩ w') :
    (Code.region id ops0 true).wp P Q ⟨T0, df⟩ w := by
  have heq := heq.symm
  subst heq
  have hdep : ∀ (T : Array Value) (w' : World) (i : Nat) (o : Oper), ops[i]? = some o → (∀ j oj d, ops[j]? = some oj → oj.dst = some d → waitsFor o j = true → lookB ops cs i j = true → desAt Ds j (T.getD d undef) w') → ∀ j d, (dep ops i j d && lookB ops cs i j) = true → desAt Ds j (T.getD d undef) w' := by
    intro T w' i o ho hd j d hjj
    rw [Bool.and_eq_true] at hjj
    obtain ⟨hj, hk⟩ := hjj
    unfold dep at hj
    rw [ho] at hj
    cases hoj : ops[j]? with
    | none => rw [hoj] at hj; cases hj
    | some oj =>
      rw [hoj] at hj
      simp only [Bool.and_eq_true, beq_iff_eq] at hj
      exact hd j oj d hoj hj.2 hj.1 hk
  refine wp_region_any hm (wpAny_chgE (W0 := w.drewN 1) (df := df) (D := desAt Ds) (gs := gs) (cs := cs) (B0 := B0) hB0 hok (fun g hgm => ?_) (fun g hgm i => ?_) (fun i v w w' h hb => (Ds.getD i (isV undef)).2 v w w' h hb) (fun i o ho T w' hbS hb ht hd => ?_) (fun T w' hb hs ht hd => ?_) _ _ _ _ ?_ ?_)
  · have := List.all_eq_true.1 hgs g hgm
    cases ho : ops[g.1]? with
    | none => rw [ho] at this; cases this
    | some o =>
      rw [ho] at this
      obtain ⟨d, hd⟩ := Option.isSome_iff_exists.1 this
      exact ⟨o, d, rfl, hd, hg g hgm⟩
  · have h1 := List.all_eq_true.1 hgc g hgm
    refine List.all_eq_true.2 fun x hx => ?_
    cases hc : x.2.contains g.1 with
    | false => rfl
    | true =>
      have : spoiltB cs g.1 = true := List.any_eq_true.2 ⟨x, hx, hc⟩
      rw [this] at h1
      cases h1
  · have := hstep.at i o (by simpa using ho)
    rw [Nat.zero_add] at this
    have h := this T w' (fun hk => (_root_.Go.below_drewN (Below.refl _ _) 1).trans (hbS hk)) ((_root_.Go.below_drewN (Below.refl _ _) 1).trans hb) ht (hdep T w' i o ho hd)
    unfold OwedB at h ⊢
    cases hic : dd cs i with
    | none => rw [hic] at h; exact h
    | some dead =>
      rw [hic] at h
      obtain ⟨v, w'', h1, h1', h2, h3, h4⟩ := h
      exact ⟨v, w'', h1, h1', h2, ⟨h3.os, h3.tape, h3.output, h3.size, h3.block⟩, h4⟩
  · refine hfin T w' ((_root_.Go.below_drewN (Below.refl _ _) 1).trans hb) hs ht (fun i d hdd hi => ?_) (fun c hn hs hdd => ?_)
    · unfold dstAt at hi
      cases ho : ops[i]? with
      | none => rw [ho] at hi; cases hi
      | some o =>
        rw [ho] at hi
        have hdo : o.dst = some d := by simpa using hi
        have := hd i o ho (Or.inl (by rw [hdo]; simp)) hdd
        unfold slotV at this
        rw [hdo] at this
        exact this
    · unfold noDst at hn
      cases ho : ops[c]? with
      | none => rw [ho] at hn; cases hn
      | some o =>
        rw [ho] at hn
        have hdo : o.dst = none := by simpa using hn
        have := hd c o ho (Or.inr (by intro h; rw [h] at hs; cases hs)) hdd
        unfold slotV at this
        rw [hdo] at this
        exact this
  · simp [unlisted]
  · exact ⟨by simp, Below.refl _ _, fun _ => Below.refl _ _, rfl, rfl, fun _ _ => rfl, fun i o ho _ hl => by
      have hi : i < ops.size := (Array.getElem?_eq_some_iff.1 ho).1
      simp [hi] at hl, fun i o ho hl => by
      have hi : i < ops.size := (Array.getElem?_eq_some_iff.1 ho).1
      simp [hi] at hl⟩
end Go.Proofs.YtecibbokbonmcaeGreat

/- Contracts of the reference's ownTree and ownBook: the same, in memory of the call's own. -/
namespace Go.Proofs.YtecibbokbonmcaeGreat
open Go.RowKit

/-- a block of that type -/
def TyB (w : World) (b : Nat) (t : TypeId) : Prop := ∃ cs fr, w.heap[b]? = some (.cells cs t fr)
theorem TyB.later {w w' : World} {b : Nat} {t : TypeId} (h : TyB w b t) (hb : Below w.heap.size w w') : TyB w' b t := by
  obtain ⟨cs, fr, h⟩ := h
  exact ⟨cs, fr, (hb.block b (Array.getElem?_eq_some_iff.1 h).1).trans h⟩
theorem TyB.away {w w' : World} {b : Nat} {t : TypeId} (h : TyB w b t) (hb : w'.heap[b]? = w.heap[b]?) : TyB w' b t := by
  obtain ⟨cs, fr, h⟩ := h
  exact ⟨cs, fr, hb.trans h⟩
theorem TyB.lt {w : World} {b : Nat} {t : TypeId} (h : TyB w b t) : b < w.heap.size := by
  obtain ⟨cs, fr, h⟩ := h
  exact (Array.getElem?_eq_some_iff.1 h).1
/-- pairs of numbers, put behind nothing -/
theorem app_pairs (t e : TypeId) (i0 : TypeInfo) (z : Value) (ht : Tryz.prog.underlying t = some (.slice e)) (hi : Tryz.prog.info? e = some i0) (h1 : i0.zero = some z) (h2 : i0.size = 2) (h3 : i0.bytes = 16)
    (w : World) (a : Addr) (n c : Nat) (l : RunL) (h : RunsIn w (some a) n c l) (hp : 0 < n) (hn : n ≤ 1000) :
    ∃ g k w', (∀ (b0 : Addr) (ty : TypeId), (Builtin.append_ #[t, t] ty #[.slice (some b0) 0 0, .slice (some a) n c]).run Tryz.prog w = .ok (.slice (some ⟨g, 0, none⟩) n k) w') ∧ RunsIn w' (some ⟨g, 0, none⟩) n k l ∧ w.heap.size ≤ g ∧ Below w.heap.size w w' ∧ TyB w' g e := by
  have hl : (cellsOf l).length = n * 2 := by rw [cellsOf_length, h.len]
  have hb2 : Builtin.nextslicecap (0 + n) 0 * 16 ≤ 281474976710656 := by
    have : Builtin.nextslicecap (0 + n) 0 = n := by
      unfold Builtin.nextslicecap
      simp
      omega
    omega
  have hg := fun (b0 : Addr) (ty : TypeId) => run_append_grow (P := Tryz.prog) w t ty e i0 z ht hi h1 b0 0 0 [] (by simp) (fun j v hv => by simp at hv) a n c (cellsOf l) (by rw [hl, h2]) (fun j u hu => h.list j u hu) (by omega) (by omega) (by rw [h3]; exact hb2)
  simp only [Nat.zero_add] at hg
  refine ⟨_, _, _, hg, ?_, Nat.le_refl _, (_root_.Go.below_drewN (Below.refl w.heap.size w) 1).alloc (Nat.le_refl _) _, ⟨_, _, heap_alloc_new w.drew _⟩⟩
  have hge := grownCap_ge w n 0 e
  have hcm := grownCap_le_maxLen w n 0 e (by simp only [maxLen]; omega)
  simp only [maxLen] at hcm
  refine ⟨h.len, hge, h.bound, hcm, fun _ => ⟨w.heap.size, 0, rfl, fun i hi => ?_⟩⟩
  have hrow : (w.drew.alloc (.cells ([].toArray ++ (cellsOf l).toArray ++ Builtin.zeroCells z.cells (grownCap w n 0 e - n)) e)).heap[w.heap.size]? = some (.cells ([].toArray ++ (cellsOf l).toArray ++ Builtin.zeroCells z.cells (grownCap w n 0 e - n)) e (0, 0)) := heap_alloc_new w.drew _
  have key : ∀ j u, (cellsOf l)[j]? = some u → (w.drew.alloc (.cells ([].toArray ++ (cellsOf l).toArray ++ Builtin.zeroCells z.cells (grownCap w n 0 e - n)) e)).cell? ⟨w.heap.size, j, none⟩ = some u := fun j u hu => by
    rw [cell_of_row _ w.heap.size j _ _ _ hrow]
    have hj : j < (cellsOf l).length := (List.getElem?_eq_some_iff.1 hu).1
    rw [Array.getElem?_append_left (by simpa using hj)]
    simpa using hu
  have hil : i < l.length := by have := h.len; omega
  exact ⟨by rw [Nat.zero_add]; exact key _ _ (cellsOf_even l i hil), by rw [Nat.zero_add]; exact key _ _ (cellsOf_odd l i hil)⟩
theorem app_runs (w : World) (a : Addr) (n c : Nat) (l : RunL) (h : RunsIn w (some a) n c l) (hp : 0 < n) (hn : n ≤ 1000) :
    ∃ g k w', (∀ (b0 : Addr) (ty : TypeId), (Builtin.append_ #[26, 26] ty #[.slice (some b0) 0 0, .slice (some a) n c]).run Tryz.prog w = .ok (.slice (some ⟨g, 0, none⟩) n k) w') ∧ RunsIn w' (some ⟨g, 0, none⟩) n k l ∧ w.heap.size ≤ g ∧ Below w.heap.size w w' ∧ TyB w' g 71 := by
  obtain ⟨i0, hi, e⟩ := Option.map_eq_some_iff.1 (show (Tryz.prog.info? 71).map (fun i => (i.zero, i.size, i.bytes)) = some (some (.agg #[.int .i64 0, .int .i64 0]), 2, 16) from by kernel_rfl)
  simp only [Prod.mk.injEq] at e
  exact app_pairs _ _ i0 _ Tryz.underlying26 hi e.1 e.2.1 e.2.2 w a n c l h hp hn
theorem app_pieces (w : World) (a : Addr) (n c : Nat) (l : RunL) (h : RunsIn w (some a) n c l) (hp : 0 < n) (hn : n ≤ 1000) :
    ∃ g k w', (∀ (b0 : Addr) (ty : TypeId), (Builtin.append_ #[38, 38] ty #[.slice (some b0) 0 0, .slice (some a) n c]).run Tryz.prog w = .ok (.slice (some ⟨g, 0, none⟩) n k) w') ∧ RunsIn w' (some ⟨g, 0, none⟩) n k l ∧ w.heap.size ≤ g ∧ Below w.heap.size w w' ∧ TyB w' g 96 := by
  obtain ⟨i0, hi, e⟩ := Option.map_eq_some_iff.1 (show (Tryz.prog.info? 96).map (fun i => (i.zero, i.size, i.bytes)) = some (some (.agg #[.int .i64 0, .int .i64 0]), 2, 16) from by kernel_rfl)
  simp only [Prod.mk.injEq] at e
  exact app_pairs _ _ i0 _ Tryz.underlying38 hi e.1 e.2.1 e.2.2 w a n c l h hp hn
theorem app_bites (w : World) (a : Addr) (n c : Nat) (l : RunL) (h : RunsIn w (some a) n c l) (hp : 0 < n) (hn : n ≤ 1000) :
    ∃ g k w', (∀ (b0 : Addr) (ty : TypeId), (Builtin.append_ #[41, 41] ty #[.slice (some b0) 0 0, .slice (some a) n c]).run Tryz.prog w = .ok (.slice (some ⟨g, 0, none⟩) n k) w') ∧ RunsIn w' (some ⟨g, 0, none⟩) n k l ∧ w.heap.size ≤ g ∧ Below w.heap.size w w' ∧ TyB w' g 49 := by
  obtain ⟨i0, hi, e⟩ := Option.map_eq_some_iff.1 (show (Tryz.prog.info? 49).map (fun i => (i.zero, i.size, i.bytes)) = some (some (.agg #[.int .i64 0, .int .i64 0]), 2, 16) from by kernel_rfl)
  simp only [Prod.mk.injEq] at e
  exact app_pairs _ _ i0 _ Tryz.underlying41 hi e.1 e.2.1 e.2.2 w a n c l h hp hn
theorem quCells_app : ∀ a b : QL, quCells (a ++ b) = quCells a ++ quCells b
  | [], _ => rfl
  | x :: a, b => by
    show quCell x ++ quCells (a ++ b) = quCell x ++ quCells a ++ quCells b
    rw [quCells_app a b, List.append_assoc]
theorem qu_app {a b : QL} {i : Nat} (h : i < a.length) : qu (a ++ b) i = qu a i := by
  unfold qu
  rw [List.getD_eq_getElem?_getD, List.getD_eq_getElem?_getD, List.getElem?_append_left h]
theorem qu_end (a : QL) (x : Qu) : qu (a ++ [x]) a.length = x := by
  unfold qu
  simp
theorem infoQueue : (Tryz.prog.info? 52).map (fun i => (i.zero, i.size, i.bytes)) = some (some (.agg #[.string .empty, .int .i64 0, .slice none 0 0]), 3, 48) := by kernel_rfl
/-- a queue is put behind others that the call made -/
theorem own_put (w : World) (B : Nat) (v : Value) (lk : QL) (hO : OwnQs w B v lk) (X : Qu) (gL : Nat) (ty : TypeId) (hL : w.heap[gL]? = some (.cells #[.string X.name, .int .i64 X.parent, .slice X.ca X.cn X.cc] 52 (0, 0)))
    (hr : RunsIn w X.ca X.cn X.cc X.runs) (hs : X.name.size ≤ 9223372036854775807) (hf : 0 < X.cn → ∀ b off, X.ca = some ⟨b, off, none⟩ → v.ownBlock ≠ some b) (hlk : lk.length ≤ 999) (hB : B ≤ w.heap.size) :
    ∃ v' w', (Builtin.append_ #[22, 22] ty #[v, .slice (some ⟨gL, 0, none⟩) 1 1]).run Tryz.prog w = .ok v' w' ∧ OwnQs w' B v' (lk ++ [X]) ∧ Below B w w' ∧ ∀ b, b < w.heap.size → v.ownBlock ≠ some b → w'.heap[b]? = w.heap[b]? := by
  obtain ⟨i0, hi, e⟩ := Option.map_eq_some_iff.1 infoQueue
  simp only [Prod.mk.injEq] at e
  obtain ⟨e1, e2, e3⟩ := e
  obtain ⟨g9, k9, w', h1, h2, h3, h4, h5⟩ := run_append_lies w 22 ty B 52 i0 _ 3 48 Tryz.underlying22 hi e1 e2 e3 (by rfl) (by omega) v lk.length (quCells lk) hO.row ⟨gL, 0, none⟩ 1 1 (quCell X) (by simp [quCell])
    (fun j u hu => by rw [Addr.add_lit, Nat.zero_add, cell_of_row w gL j _ _ _ hL]; simpa [quCell] using hu) (fun u hu => quCells_one [X] u (by simpa [quCells] using hu)) (by omega) (by simp only [maxLen]; omega) (by omega) hB w.heap.size rfl
  have hkeep : ∀ {a : Option Addr} {n cap : Nat} {l : RunL}, RunsIn w a n cap l → (0 < n → ∀ b off, a = some ⟨b, off, none⟩ → v.ownBlock ≠ some b) → RunsIn w' a n cap l := fun h hn => h.of_away fun hp b off e => h3.block b (h.lt hp e) (fun e2 => hn hp b off e e2.symm)
  have hg9 : ∀ b, b < w.heap.size → v.ownBlock ≠ some b → (Value.slice (some ⟨g9, 0, none⟩) (lk.length + 1) k9).ownBlock ≠ some b := fun b hb hv e => by
    have e : g9 = b := by simpa [Value.ownBlock] using e
    subst e
    rcases h4 with h | h
    · exact hv h
    · omega
  refine ⟨_, w', h1, ⟨?_, fun i hi => ?_, fun i hi => ?_, fun i hi => ?_⟩, (Below.refl B w).grown h3 hB (fun k e => (hO.row.lt k e).1), fun b hb hv => h3.block b hb (fun e => hv e.symm)⟩
  · rw [List.length_append, List.length_singleton, quCells_app]
    have : quCells [X] = quCell X := by simp [quCells]
    rw [this]
    exact h2
  · by_cases e : i < lk.length
    · rw [qu_app e]; exact hkeep (hO.caps i e) (hO.far i e)
    · obtain rfl : i = lk.length := by simp at hi; omega
      rw [qu_end]; exact hkeep hr hf
  · by_cases e : i < lk.length
    · rw [qu_app e]
      exact fun hp b off e2 => hg9 b ((hO.caps i e).lt hp e2) (hO.far i e hp b off e2)
    · obtain rfl : i = lk.length := by simp at hi; omega
      rw [qu_end]
      exact fun hp b off e2 => hg9 b (hr.lt hp e2) (hf hp b off e2)
  · by_cases e : i < lk.length
    · rw [qu_app e]; exact hO.names i e
    · obtain rfl : i = lk.length := by simp at hi; omega
      rw [qu_end]; exact hs
theorem bareQ_snoc {l lk : QL} {k : Nat} {X : Qu} (h : bareQ lk = bareQ (l.take k)) (hk : k < l.length) (hX : X.bare = (qu l k).bare) : bareQ (lk ++ [X]) = bareQ (l.take (k + 1)) := by
  have e1 : l.take (k + 1) = l.take k ++ [qu l k] := by
    rw [List.take_succ_eq_append_getElem hk]
    congr 2
    unfold qu
    simp [List.getD, hk]
  rw [e1]
  unfold bareQ at *
  rw [List.map_append, List.map_append, h]
  simp [hX]

set_option maxRecDepth 100000 in
set_option maxHeartbeats 4000000 in
theorem ownTree_any (w : World) (a : Option Addr) (n cap : Nat) (l : QL) (h : QsIn w a n cap l) (hp : 0 < n) (hn : n ≤ 999) (hcs : ∀ i, i < n → 0 < (qu l i).cn ∧ (qu l i).cn ≤ 1000) :
    Calls Tryz.prog 58 #[.slice a n cap] w fun e w' => ∃ g c' l', e = .returned (.slice (some ⟨g, 0, none⟩) n c') ∧ OwnQs w' w.heap.size (.slice (some ⟨g, 0, none⟩) n c') l' ∧ n = l'.length ∧ bareQ l' = bareQ l ∧ Below w.heap.size w w' ∧ ∀ i, i < n → 0 < (qu l' i).cn → ∀ b off, (qu l' i).ca = some ⟨b, off, none⟩ → w.heap.size ≤ b ∧ TyB w' b 71 := by
  obtain ⟨qb, qo, rfl, hc⟩ := h.cells hp
  obtain ⟨B, hBB⟩ : ∃ B, w.heap.size = B := ⟨_, rfl⟩
  have hle := h.le
  have hcb := h.capb
  have HN := hid h.len
  have HH := hid h
  have HC := hid hc
  have HCS := hid hcs
  have HBB := hid hBB
  clear h hc hcs
  rw [hBB]
  clear hBB
  go_enter Tryz.func58, Tryz.ntmps58
  go_wp2_with fail
  go_loopg [3, 4] n (fun gk (v p : Value) wr => ∃ (k : Nat) (lk : QL), p = .int .i64 k ∧ k ≤ n ∧ gk = n - k ∧ lk.length = k ∧ OwnQs wr B v lk ∧ bareQ lk = bareQ (l.take k) ∧ (∀ i, i < k → 0 < (qu lk i).cn → ∀ b off, (qu lk i).ca = some ⟨b, off, none⟩ → B ≤ b ∧ TyB wr b 71) ∧ Below B w wr)
  case atStart => exact ⟨0, [], rfl, by omega, by omega, rfl, ⟨World.ownsRow_nil _ _ _ _, fun i hi => absurd hi (Nat.not_lt_zero i), fun i hi => absurd hi (Nat.not_lt_zero i), fun i hi => absurd hi (Nat.not_lt_zero i)⟩, rfl, fun i hi => absurd hi (Nat.not_lt_zero i), Below.refl _ _⟩
  case round =>
    obtain ⟨k, lk, rfl, hk, rfl, hlen, hO, hbq, hnw, hbr⟩ := hrel
    have hB : B ≤ wr.heap.size := by have := hbr.size; have := HBB.out; omega
    have HBR := hid hbr
    have HL := hid hlen
    have HBQ := hid hbq
    have HNW := hid hnw
    have HO := hid hO
    by_cases hlt : k < n
    · have hlt' : (k : Int) < n := by omega
      have hlk : lk.length ≤ 999 := by omega
      have hbw : Below w.heap.size w wr := by rw [HBB.out]; exact hbr
      obtain ⟨C0, C1, C2⟩ := HC.out k hlt
      have hcr := HH.out.caps k hlt
      have hyn := HH.out.names k hlt
      obtain ⟨hcn, hcm⟩ := HCS.out k hlt
      obtain ⟨Y, hY⟩ : ∃ Y, qu l k = Y := ⟨_, rfl⟩
      rw [hY] at C0 C1 C2 hcr hyn hcn hcm
      obtain ⟨cb, co, hca, _⟩ := hcr.cells hcn
      rw [hca] at C2 hcr
      have C0 := hid (cell_later hbw C0)
      have C1 := hid (cell_later hbw C1)
      have C2 := hid (cell_later hbw C2)
      have HCR := hid (hcr.later hbw)
      have HYN := hid hyn
      have HY := hid hY
      have HVF : Hid (∀ b, wr.heap.size ≤ b → u3.ownBlock ≠ some b) := fun b hb e => by have := (HO.out.row.lt b e).2; omega
      clear hbr hlen hO hbq hnw hcr hyn hca hY hbw
      go_wp2_with fail
      refine wp_region_chgE ((Tryz.f58.body.bind fun c => regOps c 5).getD #[]) (by kernel_rfl) [isV (u3), isV (.slice (some ⟨qb, qo, none⟩) n cap), isV (.int .i64 k), isV (.pointer (some ⟨qb, qo + k * 3, none⟩)), isV (.pointer (some ⟨qb, qo + k * 3, none⟩)), isV (.string Y.name), isV (.slice (some ⟨qb, qo, none⟩) n cap), isV (.int .i64 k), isV (.pointer (some ⟨qb, qo + k * 3, none⟩)), isV (.pointer (some ⟨qb, qo + k * 3 + 1, none⟩)), isV (.int .i64 Y.parent), ⟨fun u _ => ∃ g0, u = .slice (some ⟨g0, 0, none⟩) 0 0, fun _ _ _ h _ => h⟩, isV (.slice (some ⟨qb, qo, none⟩) n cap), isV (.int .i64 k), isV (.pointer (some ⟨qb, qo + k * 3, none⟩)), isV (.pointer (some ⟨qb, qo + k * 3 + 2, none⟩)), isV (.slice (some ⟨cb, co, none⟩) Y.cn Y.cc), ⟨fun u Z => ∃ g7 k7, u = .slice (some ⟨g7, 0, none⟩) Y.cn k7 ∧ RunsIn Z (some ⟨g7, 0, none⟩) Y.cn k7 Y.runs ∧ wr.heap.size ≤ g7 ∧ TyB Z g7 71, fun _ _ _ ⟨g7, k7, h1, h2, h3, h4⟩ hb => ⟨g7, k7, h1, h2.later hb, h3, h4.later hb⟩⟩, ⟨fun u Z => ∃ g7 k7, u = .agg #[.string Y.name, .int .i64 Y.parent, .slice (some ⟨g7, 0, none⟩) Y.cn k7] ∧ RunsIn Z (some ⟨g7, 0, none⟩) Y.cn k7 Y.runs ∧ wr.heap.size ≤ g7 ∧ TyB Z g7 71, fun _ _ _ ⟨g7, k7, h1, h2, h3, h4⟩ hb => ⟨g7, k7, h1, h2.later hb, h3, h4.later hb⟩⟩, ⟨fun u Z => ∃ g7 k7 gL, u = .slice (some ⟨gL, 0, none⟩) 1 1 ∧ Z.heap[gL]? = some (.cells #[.string Y.name, .int .i64 Y.parent, .slice (some ⟨g7, 0, none⟩) Y.cn k7] 52 (0, 0)) ∧ RunsIn Z (some ⟨g7, 0, none⟩) Y.cn k7 Y.runs ∧ wr.heap.size ≤ g7 ∧ TyB Z g7 71, fun _ _ _ ⟨g7, k7, gL, h1, h2, h3, h4, h5⟩ hb => ⟨g7, k7, gL, h1, (hb.block _ (Array.getElem?_eq_some_iff.1 h2).1).trans h2, h3.later hb, h4, h5.later hb⟩⟩, ⟨fun u Z => ∃ g7 k7, OwnQs Z B u (lk ++ [⟨Y.name, Y.parent, some ⟨g7, 0, none⟩, Y.cn, k7, Y.runs⟩]) ∧ wr.heap.size ≤ g7 ∧ Below B wr Z ∧ TyB Z g7 71 ∧ ∀ b, b < wr.heap.size → u3.ownBlock ≠ some b → Z.heap[b]? = wr.heap[b]?, fun _ Z Y ⟨g7, k7, h1, h2, h3, h4, h5⟩ hb => ⟨g7, k7, h1.later hb, h2, h3.trans (hb.mono (Nat.le_trans hB h3.size)), h4.later hb, fun b hb1 hb2 => (hb.block b (Nat.lt_of_lt_of_le hb1 h3.size)).trans (h5 b hb1 hb2)⟩⟩, ⟨fun u Z => ∃ g7 k7, OwnQs Z B u (lk ++ [⟨Y.name, Y.parent, some ⟨g7, 0, none⟩, Y.cn, k7, Y.runs⟩]) ∧ wr.heap.size ≤ g7 ∧ Below B wr Z ∧ TyB Z g7 71 ∧ ∀ b, b < wr.heap.size → u3.ownBlock ≠ some b → Z.heap[b]? = wr.heap[b]?, fun _ Z Y ⟨g7, k7, h1, h2, h3, h4, h5⟩ hb => ⟨g7, k7, h1.later hb, h2, h3.trans (hb.mono (Nat.le_trans hB h3.size)), h4.later hb, fun b hb1 hb2 => (hb.block b (Nat.lt_of_lt_of_le hb1 h3.size)).trans (h5 b hb1 hb2)⟩⟩] [] [(20, [17, 18, 19])] B (hB) (by kernel_rfl) (by kernel_rfl) (by kernel_rfl) (by kernel_rfl) ?hg ?hstep ?hfin
      case hg =>
        intro g hg v w h
        cases hg
      case hstep =>
        refine AllOps.cons 1 rfl ?_ ?_
        · intro T w' hbS hb0 hl hd
          show OpDoes Tryz.prog _ _ _ _
          have hb := hbS (by kernel_rfl)
          have h0 : T.getD 3 undef = u3 := hl 3 (by kernel_rfl)
          exact Or.inl ⟨u3, w', by go_simp, rfl, Below.refl _ _⟩
        refine AllOps.cons 2 rfl ?_ ?_
        · intro T w' hbS hb0 hl hd
          show OpDoes Tryz.prog _ _ _ _
          have hb := hbS (by kernel_rfl)
          have h0 : T.getD 0 undef = .slice (some ⟨qb, qo, none⟩) n cap := hl 0 (by kernel_rfl)
          exact Or.inl ⟨.slice (some ⟨qb, qo, none⟩) n cap, w', by go_simp, rfl, Below.refl _ _⟩
        refine AllOps.cons 3 rfl ?_ ?_
        · intro T w' hbS hb0 hl hd
          show OpDoes Tryz.prog _ _ _ _
          have hb := hbS (by kernel_rfl)
          have h0 : T.getD 4 undef = .int .i64 k := hl 4 (by kernel_rfl)
          exact Or.inl ⟨.int .i64 k, w', by go_simp, rfl, Below.refl _ _⟩
        refine AllOps.cons 4 rfl ?_ ?_
        · intro T w' hbS hb0 hl hd
          show OpDoes Tryz.prog _ _ _ _
          have hb := hbS (by kernel_rfl)
          have h0 : T.getD 12 undef = .slice (some ⟨qb, qo, none⟩) n cap := hd 1 12 (by kernel_rfl)
          have h1 : T.getD 13 undef = .int .i64 k := hd 2 13 (by kernel_rfl)
          exact Or.inl ⟨.pointer (some ⟨qb, qo + k * 3, none⟩), w', by go_simp, rfl, Below.refl _ _⟩
        refine AllOps.cons 5 rfl ?_ ?_
        · intro T w' hbS hb0 hl hd
          show OpDoes Tryz.prog _ _ _ _
          have hb := hbS (by kernel_rfl)
          have h0 : T.getD 14 undef = .pointer (some ⟨qb, qo + k * 3, none⟩) := hd 3 14 (by kernel_rfl)
          exact Or.inl ⟨.pointer (some ⟨qb, qo + k * 3, none⟩), w', by go_simp, rfl, Below.refl _ _⟩
        refine AllOps.cons 6 rfl ?_ ?_
        · intro T w' hbS hb0 hl hd
          show OpDoes Tryz.prog _ _ _ _
          have hb := hbS (by kernel_rfl)
          have h0 : T.getD 15 undef = .pointer (some ⟨qb, qo + k * 3, none⟩) := hd 4 15 (by kernel_rfl)
          have cc := cell_later hb C0.out
          exact Or.inl ⟨.string Y.name, w', by go_simp, rfl, Below.refl _ _⟩
        refine AllOps.cons 7 rfl ?_ ?_
        · intro T w' hbS hb0 hl hd
          show OpDoes Tryz.prog _ _ _ _
          have hb := hbS (by kernel_rfl)
          have h0 : T.getD 0 undef = .slice (some ⟨qb, qo, none⟩) n cap := hl 0 (by kernel_rfl)
          exact Or.inl ⟨.slice (some ⟨qb, qo, none⟩) n cap, w', by go_simp, rfl, Below.refl _ _⟩
        refine AllOps.cons 8 rfl ?_ ?_
        · intro T w' hbS hb0 hl hd
          show OpDoes Tryz.prog _ _ _ _
          have hb := hbS (by kernel_rfl)
          have h0 : T.getD 4 undef = .int .i64 k := hl 4 (by kernel_rfl)
          exact Or.inl ⟨.int .i64 k, w', by go_simp, rfl, Below.refl _ _⟩
        refine AllOps.cons 9 rfl ?_ ?_
        · intro T w' hbS hb0 hl hd
          show OpDoes Tryz.prog _ _ _ _
          have hb := hbS (by kernel_rfl)
          have h0 : T.getD 17 undef = .slice (some ⟨qb, qo, none⟩) n cap := hd 6 17 (by kernel_rfl)
          have h1 : T.getD 18 undef = .int .i64 k := hd 7 18 (by kernel_rfl)
          exact Or.inl ⟨.pointer (some ⟨qb, qo + k * 3, none⟩), w', by go_simp, rfl, Below.refl _ _⟩
        refine AllOps.cons 10 rfl ?_ ?_
        · intro T w' hbS hb0 hl hd
          show OpDoes Tryz.prog _ _ _ _
          have hb := hbS (by kernel_rfl)
          have h0 : T.getD 19 undef = .pointer (some ⟨qb, qo + k * 3, none⟩) := hd 8 19 (by kernel_rfl)
          exact Or.inl ⟨.pointer (some ⟨qb, qo + k * 3 + 1, none⟩), w', by go_simp, rfl, Below.refl _ _⟩
        refine AllOps.cons 11 rfl ?_ ?_
        · intro T w' hbS hb0 hl hd
          show OpDoes Tryz.prog _ _ _ _
          have hb := hbS (by kernel_rfl)
          have h0 : T.getD 20 undef = .pointer (some ⟨qb, qo + k * 3 + 1, none⟩) := hd 9 20 (by kernel_rfl)
          have cc := cell_later hb C1.out
          exact Or.inl ⟨.int .i64 Y.parent, w', by go_simp, rfl, Below.refl _ _⟩
        refine AllOps.cons 12 rfl ?_ ?_
        · intro T w' hbS hb0 hl hd
          show OpDoes Tryz.prog _ _ _ _
          have hb := hbS (by kernel_rfl)
          exact Or.inl ⟨.slice (some ⟨w'.heap.size, 0, none⟩) 0 0, w'.alloc (.cells #[] 71), by go_simp, ⟨_, rfl⟩, (Below.refl _ _).alloc (Nat.le_refl _) _⟩
        refine AllOps.cons 13 rfl ?_ ?_
        · intro T w' hbS hb0 hl hd
          show OpDoes Tryz.prog _ _ _ _
          have hb := hbS (by kernel_rfl)
          have h0 : T.getD 0 undef = .slice (some ⟨qb, qo, none⟩) n cap := hl 0 (by kernel_rfl)
          exact Or.inl ⟨.slice (some ⟨qb, qo, none⟩) n cap, w', by go_simp, rfl, Below.refl _ _⟩
        refine AllOps.cons 14 rfl ?_ ?_
        · intro T w' hbS hb0 hl hd
          show OpDoes Tryz.prog _ _ _ _
          have hb := hbS (by kernel_rfl)
          have h0 : T.getD 4 undef = .int .i64 k := hl 4 (by kernel_rfl)
          exact Or.inl ⟨.int .i64 k, w', by go_simp, rfl, Below.refl _ _⟩
        refine AllOps.cons 15 rfl ?_ ?_
        · intro T w' hbS hb0 hl hd
          show OpDoes Tryz.prog _ _ _ _
          have hb := hbS (by kernel_rfl)
          have h0 : T.getD 23 undef = .slice (some ⟨qb, qo, none⟩) n cap := hd 12 23 (by kernel_rfl)
          have h1 : T.getD 24 undef = .int .i64 k := hd 13 24 (by kernel_rfl)
          exact Or.inl ⟨.pointer (some ⟨qb, qo + k * 3, none⟩), w', by go_simp, rfl, Below.refl _ _⟩
        refine AllOps.cons 16 rfl ?_ ?_
        · intro T w' hbS hb0 hl hd
          show OpDoes Tryz.prog _ _ _ _
          have hb := hbS (by kernel_rfl)
          have h0 : T.getD 25 undef = .pointer (some ⟨qb, qo + k * 3, none⟩) := hd 14 25 (by kernel_rfl)
          exact Or.inl ⟨.pointer (some ⟨qb, qo + k * 3 + 2, none⟩), w', by go_simp, rfl, Below.refl _ _⟩
        refine AllOps.cons 17 rfl ?_ ?_
        · intro T w' hbS hb0 hl hd
          show OpDoes Tryz.prog _ _ _ _
          have hb := hbS (by kernel_rfl)
          have h0 : T.getD 26 undef = .pointer (some ⟨qb, qo + k * 3 + 2, none⟩) := hd 15 26 (by kernel_rfl)
          have cc := cell_later hb C2.out
          exact Or.inl ⟨.slice (some ⟨cb, co, none⟩) Y.cn Y.cc, w', by go_simp, rfl, Below.refl _ _⟩
        refine AllOps.cons 18 rfl ?_ ?_
        · intro T w' hbS hb0 hl hd
          show OpDoes Tryz.prog _ _ _ _
          have hb := hbS (by kernel_rfl)
          obtain ⟨g0, h0⟩ := hd 11 22 (by kernel_rfl)
          have h1 : T.getD 27 undef = .slice (some ⟨cb, co, none⟩) Y.cn Y.cc := hd 16 27 (by kernel_rfl)
          obtain ⟨g7, k7, w'', hrun, hr, hg, hbb, hty⟩ := app_runs w' ⟨cb, co, none⟩ Y.cn Y.cc Y.runs (HCR.out.later hb) hcn hcm
          exact Or.inl ⟨.slice (some ⟨g7, 0, none⟩) Y.cn k7, w'', exec_append (.tmp 22) (.tmp 27) 26 rfl _ _ h0 h1 (hrun _ _), ⟨g7, k7, rfl, hr, Nat.le_trans hb.size hg, hty⟩, hbb⟩
        refine AllOps.cons 19 rfl ?_ ?_
        · intro T w' hbS hb0 hl hd
          show OpDoes Tryz.prog _ _ _ _
          have hb := hbS (by kernel_rfl)
          have h0 : T.getD 16 undef = .string Y.name := hd 5 16 (by kernel_rfl)
          have h1 : T.getD 21 undef = .int .i64 Y.parent := hd 10 21 (by kernel_rfl)
          obtain ⟨g7, k7, h2, hr, hnw⟩ := hd 17 28 (by kernel_rfl)
          have h0b : T[16]?.getD undef = .string Y.name := by rw [← h0]; simp
          have h1b : T[21]?.getD undef = .int .i64 Y.parent := by rw [← h1]; simp
          have h2b : T[28]?.getD undef = .slice (some ⟨g7, 0, none⟩) Y.cn k7 := by rw [← h2]; simp
          exact Or.inl ⟨.agg #[.string Y.name, .int .i64 Y.parent, .slice (some ⟨g7, 0, none⟩) Y.cn k7], w', by go_simp, ⟨g7, k7, rfl, hr, hnw⟩, Below.refl _ _⟩
        refine AllOps.cons 20 rfl ?_ ?_
        · intro T w' hbS hb0 hl hd
          show OpDoes Tryz.prog _ _ _ _
          have hb := hbS (by kernel_rfl)
          obtain ⟨g7, k7, h1, hr, hnw⟩ := hd 18 29 (by kernel_rfl)
          have h1b : T[29]?.getD undef = .agg #[.string Y.name, .int .i64 Y.parent, .slice (some ⟨g7, 0, none⟩) Y.cn k7] := by rw [← h1]; simp
          exact Or.inl ⟨.slice (some ⟨w'.heap.size, 0, none⟩) 1 1, w'.alloc (.cells #[.string Y.name, .int .i64 Y.parent, .slice (some ⟨g7, 0, none⟩) Y.cn k7] 52), by go_simp, ⟨g7, k7, w'.heap.size, rfl, heap_alloc_new w' _, hr.later ((Below.refl _ _).alloc (Nat.le_refl _) _), hnw.1, hnw.2.later ((Below.refl _ _).alloc (Nat.le_refl _) _)⟩, (Below.refl _ _).alloc (Nat.le_refl _) _⟩
        refine AllOps.cons 21 rfl ?_ ?_
        · intro T w' hbS hb0 hl hd
          show OpChgB Tryz.prog _ _ _ _ _ _ _ _ _
          have hb := hbS (by kernel_rfl)
          have h0 : T.getD 11 undef = u3 := hd 0 11 (by kernel_rfl)
          obtain ⟨g7, k7, gL, h1, hgL, hr, hnw⟩ := hd 19 30 (by kernel_rfl)
          obtain ⟨v', w'', hrun, hO, hbel, hblk⟩ := own_put w' B u3 lk (HO.out.later hb) ⟨Y.name, Y.parent, some ⟨g7, 0, none⟩, Y.cn, k7, Y.runs⟩ gL 22 hgL hr HYN.out (fun _ b off e => by injection e with e; injection e with e; subst e; exact HVF.out g7 hnw.1) hlk (Nat.le_trans hB hb.size)
          have hbw : Below B wr w'' := (hb.mono hB).trans hbel
          refine ⟨v', w'', Or.inl (exec_append (.tmp 11) (.tmp 30) 22 rfl u3 (.slice (some ⟨gL, 0, none⟩) 1 1) h0 h1 hrun), (fun h => by cases h), ⟨g7, k7, hO, hnw.1, hbw, hnw.2.away (hblk g7 hnw.2.lt (HVF.out g7 hnw.1)), fun b hb1 hb2 => (hblk b (Nat.lt_of_lt_of_le hb1 hb.size) hb2).trans (hb.block b hb1)⟩, hbw, ?_⟩
          intro i h1 h2 h3 u hu
          match i with
          | 0 => exact hu
          | 1 => exact hu
          | 2 => exact hu
          | 3 => exact hu
          | 4 => exact hu
          | 5 => exact hu
          | 6 => exact hu
          | 7 => exact hu
          | 8 => exact hu
          | 9 => exact hu
          | 10 => exact hu
          | 11 => exact hu
          | 12 => exact hu
          | 13 => exact hu
          | 14 => exact hu
          | 15 => exact hu
          | 16 => exact hu
          | 17 => exact absurd h2 (by decide)
          | 18 => exact absurd h2 (by decide)
          | 19 => exact absurd h2 (by decide)
          | 20 => exact absurd rfl h1
          | 21 => exact absurd (h3.symm.trans (by kernel_rfl : _ = true)) (by decide)
          | n + 22 => exact hu
        refine AllOps.cons 22 rfl ?_ ?_
        · intro T w' hbS hb0 hl hd
          show OpDoes Tryz.prog _ _ _ _
          obtain ⟨g7, k7, h1, h2, h3⟩ := hd 20 31 (by kernel_rfl)
          exact Or.inl ⟨T.getD 31 undef, w', by go_simp, ⟨g7, k7, h1, h2, h3⟩, Below.refl _ _⟩
        exact trivial
      case hfin =>
        intro T w' hb hs hl hd _
        obtain ⟨g7, k7, h1, h2, h3, h4, h5⟩ := hd 21 3 (by kernel_rfl) (by kernel_rfl)
        rw [lit_then [true, true, true, false, true, true, true, true, true, true, true, false, false, false, false, false, false, false, false, false, false, false, false, false, false, false, false, false, false, false, false, false, true] (by kernel_rfl) hs hl]
        obtain ⟨us, hus⟩ : ∃ us : Nat → Value, (fun d => T.getD d undef) = us := ⟨_, rfl⟩
        rw [hus]
        have f3 : us 3 = T.getD 3 undef := by rw [← hus]
        rw [← f3] at h1
        have H1 := hid h1
        have H2 := hid h2
        have H3 := hid h3
        have H4 := hid h4
        have H5 := hid h5
        clear h1 h2 h3 h4 h5 hl hd hs hus f3 hb
        simp only [fillL]
        go_wp2
        go_roundg (n - (k + 1))
        case measure => omega
        case rel =>
          refine ⟨k + 1, _, by go_num, by omega, by omega, by rw [List.length_append, HL.out]; rfl, H1.out, bareQ_snoc HBQ.out (by have := HN.out; omega) (by rw [HY.out]; rfl), fun i hi => ?_, HBR.out.trans H3.out⟩
          by_cases e : i < lk.length
          · rw [qu_app e]
            intro hp b off e2
            obtain ⟨q1, q2⟩ := HNW.out i (by have := HL.out; omega) hp b off e2
            exact ⟨q1, q2.away (H5.out b q2.lt (HO.out.far i e hp b off e2))⟩
          · obtain rfl : i = lk.length := by have := HL.out; omega
            rw [qu_end]
            intro _ b off e
            injection e with e
            injection e with e
            subst e
            have := H2.out
            exact ⟨by omega, H4.out⟩
    · obtain rfl : k = n := by omega
      obtain ⟨aa, kk, hv, _⟩ := hO.qs
      clear hbr hlen hO hbq hnw
      go_wp2
      go_ret
      have hL := HL.out
      have hO := HO.out
      rcases hO.row.2 with ⟨_, e0⟩ | ⟨g, c', cur, e1, _⟩
      · omega
      · subst e1
        rw [hL] at hO ⊢
        refine ⟨g, c', lk, rfl, hO, hL.symm, ?_, HBR.out, HNW.out⟩
        rw [HBQ.out, HN.out, List.take_length]
end Go.Proofs.YtecibbokbonmcaeGreat

/- Contract of the reference's ownBook: the same book, in memory of the call's own. -/
namespace Go.Proofs.YtecibbokbonmcaeGreat
open Go.RowKit

set_option maxRecDepth 100000 in
set_option maxHeartbeats 4000000 in
theorem ownBook_any (w : World) (X : Bk) (hq : RqIn w X.rq) (hbt : RunsIn w X.ba X.bn X.bc X.bs) (hp0 : 0 < X.rq.pn) (hp1 : X.rq.pn ≤ 1000) (hb0 : 0 < X.bn) (hb1 : X.bn ≤ 1000) :
    Calls Tryz.prog 59 #[.agg #[.int .i64 X.id, .int .i64 X.rq.queue, .int .i64 X.rq.fr, .int .i64 X.rq.un, .int .i64 X.rq.kind, .slice X.rq.pa X.rq.pn X.rq.pc, .slice X.ba X.bn X.bc]] w fun e w' => ∃ g7 k7 g8 k8, e = .returned (.agg #[.int .i64 X.id, .int .i64 X.rq.queue, .int .i64 X.rq.fr, .int .i64 X.rq.un, .int .i64 X.rq.kind, .slice (some ⟨g7, 0, none⟩) X.rq.pn k7, .slice (some ⟨g8, 0, none⟩) X.bn k8]) ∧ RunsIn w' (some ⟨g7, 0, none⟩) X.rq.pn k7 X.rq.ps ∧ RunsIn w' (some ⟨g8, 0, none⟩) X.bn k8 X.bs ∧ w.heap.size ≤ g7 ∧ w.heap.size ≤ g8 ∧ Below w.heap.size w w' := by
  obtain ⟨id, ⟨q, f, u, kd, pa, pn, pc, ps⟩, ba, bn, bc, bs⟩ := X
  have hq : RunsIn w pa pn pc ps := hq
  have hbt : RunsIn w ba bn bc bs := hbt
  simp only at hp0 hp1 hb0 hb1 ⊢
  obtain ⟨pb, po, rfl, -⟩ := hq.cells hp0
  obtain ⟨bb, bo, rfl, -⟩ := hbt.cells hb0
  obtain ⟨S, hS⟩ : ∃ S, w.heap.size = S := ⟨_, rfl⟩
  obtain ⟨W2, hW2⟩ : ∃ W2, W2 = (w.alloc (.cells #[.int .i64 id, .int .i64 q, .int .i64 f, .int .i64 u, .int .i64 kd, .slice (some ⟨pb, po, none⟩) pn pc, .slice (some ⟨bb, bo, none⟩) bn bc] 43)).alloc (.cells #[.int .i64 0, .int .i64 0, .int .i64 0, .int .i64 0, .int .i64 0, .slice none 0 0, .slice none 0 0] 43) := ⟨_, rfl⟩
  have hb2 : Below w.heap.size w W2 := by rw [hW2]; exact ((Below.refl _ _).alloc (Nat.le_refl _) _).alloc (by simp) _
  have hz2 : W2.heap.size = S + 2 := by rw [hW2]; simp [hS]
  have x1 : W2.heap[S]? = some (.cells #[.int .i64 id, .int .i64 q, .int .i64 f, .int .i64 u, .int .i64 kd, .slice (some ⟨pb, po, none⟩) pn pc, .slice (some ⟨bb, bo, none⟩) bn bc] 43 (0, 0)) := by rw [hW2, ← hS]; exact (Below.heap_alloc _ _ _ (by simp)).trans (heap_alloc_new w _)
  have x2 : W2.heap[S + 1]? = some (.cells #[.int .i64 0, .int .i64 0, .int .i64 0, .int .i64 0, .int .i64 0, .slice none 0 0, .slice none 0 0] 43 (0, 0)) := by
    have := heap_alloc_new (w.alloc (.cells #[.int .i64 id, .int .i64 q, .int .i64 f, .int .i64 u, .int .i64 kd, .slice (some ⟨pb, po, none⟩) pn pc, .slice (some ⟨bb, bo, none⟩) bn bc] 43)) (.cells #[.int .i64 0, .int .i64 0, .int .i64 0, .int .i64 0, .int .i64 0, .slice none 0 0, .slice none 0 0] 43)
    rw [World.size_alloc, hS] at this
    rw [hW2]
    exact this
  obtain ⟨W3, hW3⟩ : ∃ W3, W3 = W2.alloc (.cells #[] 96) := ⟨_, rfl⟩
  have hb3 : Below W2.heap.size W2 W3 := by rw [hW3]; exact (Below.refl _ _).alloc (Nat.le_refl _) _
  have hz3 : W3.heap.size = S + 3 := by rw [hW3]; simp [hz2]
  obtain ⟨g7, k7, W4, hr4, hR4, hg4, hb4, -⟩ := app_pieces W3 ⟨pb, po, none⟩ pn pc ps ((hq.later hb2).later hb3) hp0 hp1
  have y1 : W4.heap[S]? = _ := (hb4.block S (by omega)).trans ((hb3.block S (by omega)).trans x1)
  have y2 : W4.heap[S + 1]? = _ := (hb4.block (S + 1) (by omega)).trans ((hb3.block (S + 1) (by omega)).trans x2)
  obtain ⟨W5, hW5⟩ : ∃ W5, W5 = W4.setCell ⟨S, 5, none⟩ (.slice (some ⟨g7, 0, none⟩) pn k7) := ⟨_, rfl⟩
  have hz5 : W5.heap.size = W4.heap.size := by rw [hW5]; simp [World.setCell]
  have z1 : W5.heap[S]? = some (.cells #[.int .i64 id, .int .i64 q, .int .i64 f, .int .i64 u, .int .i64 kd, .slice (some ⟨g7, 0, none⟩) pn k7, .slice (some ⟨bb, bo, none⟩) bn bc] 43 (0, 0)) := by rw [hW5]; exact heap_setCell_same W4 S 5 _ _ _ y1
  have o5 : ∀ k, k ≠ S → W5.heap[k]? = W4.heap[k]? := fun k hk => by rw [hW5]; exact heap_setCell_other W4 ⟨S, 5, none⟩ k _ hk
  have hz4 := hb4.size
  have hwb5 : ∀ k, k < S → W5.heap[k]? = w.heap[k]? := fun k hk => by rw [o5 k (by omega), hb4.block k (by omega), hb3.block k (by omega), hb2.block k (by omega)]
  have hbt5 : RunsIn W5 (some ⟨bb, bo, none⟩) bn bc bs := hbt.of_away fun _ b off e => hwb5 b (by have := hbt.lt hb0 e; omega)
  have hR5 : RunsIn W5 (some ⟨g7, 0, none⟩) pn k7 ps := hR4.of_away fun _ b off e => o5 b (by injection e with e; injection e with e; omega)
  obtain ⟨W6, hW6⟩ : ∃ W6, W6 = W5.alloc (.cells #[] 49) := ⟨_, rfl⟩
  have hb6 : Below W5.heap.size W5 W6 := by rw [hW6]; exact (Below.refl _ _).alloc (Nat.le_refl _) _
  have hz6 : W6.heap.size = W5.heap.size + 1 := by rw [hW6]; simp
  obtain ⟨g8, k8, W7, hr7, hR7, hg7, hb7, -⟩ := app_bites W6 ⟨bb, bo, none⟩ bn bc bs (hbt5.later hb6) hb0 hb1
  have v1 : W7.heap[S]? = _ := (hb7.block S (by omega)).trans ((hb6.block S (by omega)).trans z1)
  have v2 : W7.heap[S + 1]? = _ := (hb7.block (S + 1) (by omega)).trans ((hb6.block (S + 1) (by omega)).trans ((o5 (S + 1) (by omega)).trans y2))
  obtain ⟨W8, hW8⟩ : ∃ W8, W8 = W7.setCell ⟨S, 6, none⟩ (.slice (some ⟨g8, 0, none⟩) bn k8) := ⟨_, rfl⟩
  have t1 : W8.heap[S]? = some (.cells #[.int .i64 id, .int .i64 q, .int .i64 f, .int .i64 u, .int .i64 kd, .slice (some ⟨g7, 0, none⟩) pn k7, .slice (some ⟨g8, 0, none⟩) bn k8] 43 (0, 0)) := by rw [hW8]; exact heap_setCell_same W7 S 6 _ _ _ v1
  have o8 : ∀ k, k ≠ S → W8.heap[k]? = W7.heap[k]? := fun k hk => by rw [hW8]; exact heap_setCell_other W7 ⟨S, 6, none⟩ k _ hk
  have t2 : W8.heap[S + 1]? = _ := (o8 (S + 1) (by omega)).trans v2
  have hz7 := hb7.size
  have hR8 : RunsIn W8 (some ⟨g7, 0, none⟩) pn k7 ps := ((hR5.later hb6).later hb7).of_away fun _ b off e => o8 b (by injection e with e; injection e with e; omega)
  have hS8 : RunsIn W8 (some ⟨g8, 0, none⟩) bn k8 bs := hR7.of_away fun _ b off e => o8 b (by injection e with e; injection e with e; omega)
  have hB8 : Below S w W8 := by
    have q1 : Below S w W4 := by
      have := hb2.trans (hb3.mono (show w.heap.size ≤ W2.heap.size by omega))
      exact hS ▸ this.trans (hb4.mono (by omega))
    have q2 : Below S w W5 := by rw [hW5]; exact q1.setCell (p := ⟨S, 5, none⟩) (Nat.le_refl _) _
    have q3 : Below S w W7 := (q2.trans (hb6.mono (by omega))).trans (hb7.mono (by omega))
    rw [hW8]
    exact q3.setCell (p := ⟨S, 6, none⟩) (Nat.le_refl _) _
  have a5 : W4.cell? ⟨S, 5, none⟩ = some (.slice (some ⟨pb, po, none⟩) pn pc) := by rw [cell_of_row W4 S 5 _ _ _ y1]; rfl
  have a6 : W5.cell? ⟨S, 6, none⟩ = some (.slice (some ⟨bb, bo, none⟩) bn bc) := by rw [cell_of_row W5 S 6 _ _ _ z1]; rfl
  have b5 : W3.cell? ⟨S, 5, none⟩ = some (.slice (some ⟨pb, po, none⟩) pn pc) := by rw [cell_of_row W3 S 5 _ _ _ ((hb3.block S (by omega)).trans x1)]; rfl
  have b6 : W6.cell? ⟨S, 6, none⟩ = some (.slice (some ⟨bb, bo, none⟩) bn bc) := by rw [cell_of_row W6 S 6 _ _ _ ((hb6.block S (by omega)).trans z1)]; rfl
  have c6 : W7.cell? ⟨S, 6, none⟩ = some (.slice (some ⟨bb, bo, none⟩) bn bc) := by rw [cell_of_row W7 S 6 _ _ _ v1]; rfl
  have f5 : W4.frozen? ⟨S, 5, none⟩ = false := frozen_of_row W4 S 5 _ _ y1
  have f6 : W7.frozen? ⟨S, 6, none⟩ = false := frozen_of_row W7 S 6 _ _ v1
  have d0 : W7.cell? ⟨S, 0, none⟩ = some (.int .i64 id) := by rw [cell_of_row W7 S 0 _ _ _ v1]; rfl
  have d1 : W7.cell? ⟨S, 1, none⟩ = some (.int .i64 q) := by rw [cell_of_row W7 S 1 _ _ _ v1]; rfl
  have d2 : W7.cell? ⟨S, 2, none⟩ = some (.int .i64 f) := by rw [cell_of_row W7 S 2 _ _ _ v1]; rfl
  have d3 : W7.cell? ⟨S, 3, none⟩ = some (.int .i64 u) := by rw [cell_of_row W7 S 3 _ _ _ v1]; rfl
  have d4 : W7.cell? ⟨S, 4, none⟩ = some (.int .i64 kd) := by rw [cell_of_row W7 S 4 _ _ _ v1]; rfl
  have d5 : W7.cell? ⟨S, 5, none⟩ = some (.slice (some ⟨g7, 0, none⟩) pn k7) := by rw [cell_of_row W7 S 5 _ _ _ v1]; rfl
  have e0 : ∀ k, k < 5 → W7.cell? ⟨S + 1, k, none⟩ = some (.int .i64 0) := fun k hk => by
    rw [cell_of_row W7 (S + 1) k _ _ _ v2]
    match k, hk with
    | 0, _ => rfl
    | 1, _ => rfl
    | 2, _ => rfl
    | 3, _ => rfl
    | 4, _ => rfl
  have i0 := e0 0 (by omega)
  have i1 := e0 1 (by omega)
  have i2 := e0 2 (by omega)
  have i3 := e0 3 (by omega)
  have i4 := e0 4 (by omega)
  have i5 : W7.cell? ⟨S + 1, 5, none⟩ = some (.slice none 0 0) := by rw [cell_of_row W7 (S + 1) 5 _ _ _ v2]; rfl
  have i6 : W7.cell? ⟨S + 1, 6, none⟩ = some (.slice none 0 0) := by rw [cell_of_row W7 (S + 1) 6 _ _ _ v2]; rfl
  have fr : ∀ k, W7.frozen? ⟨S + 1, k, none⟩ = false := fun k => frozen_of_row W7 (S + 1) k _ _ v2
  have HT2 := hid t2
  have HB8 := hid hB8
  have HR8 := hid hR8
  have HS8 := hid hS8
  have HW8 := hid hW8
  have hg7' : S + 2 ≤ g7 := by omega
  have hg8' : S + 2 ≤ g8 := by omega
  rw [hW6, hW5] at hr7 b6
  rw [hW3, hW2] at hr4 b5
  clear e0 t1 t2 o8 o5 hz7 hz6 hz5 hz4 hz3 v1 v2 z1 y1 y2 x1 x2 hb2 hb3 hb4 hb6 hb7 hq hbt hbt5 hR4 hR5 hR7 hR8 hS8 hB8 hwb5 a6 hg4 hg7 hW8 hW6 hW5 hW3 hW2 hz2
  have HSS := hid hS
  go_enter Tryz.func59, Tryz.ntmps59
  go_wp2_with (first
    | (at_builtin; refine Lib.wpList_append_run _ rfl _ _ _ _ rfl _ _ rfl rfl _ _ (hr4 _ _) ?_; clear hr4 b5)
    | (at_builtin; refine Lib.wpList_append_run _ rfl _ _ _ _ rfl _ _ rfl rfl _ _ (hr7 _ _) ?_; clear hr7 b6 a5 f5))
  obtain ⟨WF, hWF⟩ : ∃ WF, WF = ((((((((W7.setCell ⟨S, 6, none⟩ (.slice (some ⟨g8, 0, none⟩) bn k8)).setCell ⟨S + 1, 0, none⟩ (.int .i64 id)).setCell ⟨S + 1, 1, none⟩ (.int .i64 q)).setCell ⟨S + 1, 2, none⟩ (.int .i64 f)).setCell ⟨S + 1, 3, none⟩ (.int .i64 u)).setCell ⟨S + 1, 4, none⟩ (.int .i64 kd)).setCell ⟨S + 1, 5, none⟩ (.slice (some ⟨g7, 0, none⟩) pn k7)).setCell ⟨S + 1, 6, none⟩ (.slice (some ⟨g8, 0, none⟩) bn k8)) := ⟨_, rfl⟩
  rw [← hWF]
  rw [← HW8.out] at hWF
  have hres : WF.heap[S + 1]? = some (.cells #[.int .i64 id, .int .i64 q, .int .i64 f, .int .i64 u, .int .i64 kd, .slice (some ⟨g7, 0, none⟩) pn k7, .slice (some ⟨g8, 0, none⟩) bn k8] 43 (0, 0)) ∧ ∀ k, k ≠ S + 1 → WF.heap[k]? = W8.heap[k]? := by
    rw [hWF]
    exact seven_stores W8 (S + 1) 43 _ _ _ _ _ _ _ (.int .i64 id) (.int .i64 q) (.int .i64 f) (.int .i64 u) (.int .i64 kd) (.slice (some ⟨g7, 0, none⟩) pn k7) (.slice (some ⟨g8, 0, none⟩) bn k8) HT2.out
  have hbf : Below w.heap.size w WF := by
    rw [hWF, HSS.out]
    have h1 : S ≤ S + 1 := by omega
    exact ((((((HB8.out.setCell (p := ⟨S + 1, 0, none⟩) h1 _).setCell (p := ⟨S + 1, 1, none⟩) h1 _).setCell (p := ⟨S + 1, 2, none⟩) h1 _).setCell (p := ⟨S + 1, 3, none⟩) h1 _).setCell (p := ⟨S + 1, 4, none⟩) h1 _).setCell (p := ⟨S + 1, 5, none⟩) h1 _).setCell (p := ⟨S + 1, 6, none⟩) h1 _
  have r7 : RunsIn WF (some ⟨g7, 0, none⟩) pn k7 ps := HR8.out.of_away fun _ b off e => by
    injection e with e
    injection e with e
    exact hres.2 b (by omega)
  have r8 : RunsIn WF (some ⟨g8, 0, none⟩) bn k8 bs := HS8.out.of_away fun _ b off e => by
    injection e with e
    injection e with e
    exact hres.2 b (by omega)
  clear hWF
  refine bodyPost_ret (v := .agg #[.int .i64 id, .int .i64 q, .int .i64 f, .int .i64 u, .int .i64 kd, .slice (some ⟨g7, 0, none⟩) pn k7, .slice (some ⟨g8, 0, none⟩) bn k8]) (results_cell_row Tryz.results59 _ _ (S + 1) 43 #[.int .i64 id, .int .i64 q, .int .i64 f, .int .i64 u, .int .i64 kd, .slice (some ⟨g7, 0, none⟩) pn k7, .slice (some ⟨g8, 0, none⟩) bn k8] (0, 0) _ rfl hres.1 Tryz.underlying43 rfl (by kernel_rfl)) rfl ?_
  exact ⟨g7, k7, g8, k8, rfl, r7, r8, by omega, by omega, hbf⟩
end Go.Proofs.YtecibbokbonmcaeGreat
