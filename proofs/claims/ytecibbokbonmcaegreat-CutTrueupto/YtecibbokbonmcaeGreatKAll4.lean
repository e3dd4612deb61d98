/- Several texts in one: BookM, AnyD, BookB, BookC, BookD, DelA, DelB, DelC, DelD, BookF, BookN, AskA. -/
import Derived.Test.YtecibbokbonmcaeGreatKAll3
import Derived.Test.YtecibbokbonmcaeGreatKAll2
import Derived.Deep.AppendLies
import Derived.Deep.DeepCutAuto
import Derived.Deep.RegionLaw
import Derived.Lib.SliceRun
/- Booking, plain: what is submitted is right; what is cancelled leaves room; two ticks are one. -/
namespace Go.Proofs.YtecibbokbonmcaeGreat

theorem bump_val {g : RunL} (hg : Fine g) {a b n : Int} (h : (bumpR g a b n).2 = 0) : Fine (bumpR g a b n).1 ∧ ∀ u : Nat, u < 48 → vals (bumpR g a b n).1 u = bumpV g a b n u := by
  unfold bumpR at h ⊢
  rw [if_pos (fine_iff.2 hg)] at h ⊢
  by_cases hs : (spn a b && bdd n) = true
  · rw [if_pos hs] at h ⊢
    unfold tell at h ⊢
    by_cases ha : allTo (bumpV g a b n) 48 = true
    · rw [if_pos ha]
      exact ⟨foldTo_fine _ 48 (by omega) (by omega) ha, fun u hu => foldTo_val _ ha u hu⟩
    · rw [if_neg ha] at h; cases h
  · rw [if_neg hs] at h; cases h
theorem nOf_at (r : Rq) (b : RunL) (i : Nat) : nOf r b i = nAt r b i := rfl
/-- what is left of f where the bites are taken away -/
theorem held_val {f : RunL} {X : Bk} (hf : Fine f) (hm : meets X.rq X.bs = true) : ∀ {k : Nat} {g : RunL}, k ≤ X.bs.length → heldTo f X.rq X.bs k = some g → Fine g ∧ ∀ u : Nat, u < 48 → vals g u = vals f u - bookTo X u k ∧ (bookTo X u k = 0 ∨ 0 ≤ vals g u)
  | 0, g, _, h => by
    simp [heldTo] at h
    subst h
    exact ⟨hf, fun u _ => by simp [bookTo]⟩
  | k + 1, g, hk, h => by
    rw [heldTo] at h
    cases hn : heldTo f X.rq X.bs k with
    | none => rw [hn] at h; cases h
    | some g0 =>
      rw [hn] at h
      simp only at h
      obtain ⟨i1, i2⟩ := held_val hf hm (k := k) (g := g0) (by omega) hn
      split at h
      · rename_i h1
        split at h
        · rename_i h2
          injection h with h
          subst h
          obtain ⟨j1, j2⟩ := bump_val i1 h1
          obtain ⟨m1, m2, m3, m4, m5, m6, m7, m8⟩ := bite_all hm (show k < X.bs.length by omega)
          have hl := (least_ok j1 m3 m5 m4).2.1 h2.2
          refine ⟨j1, fun u hu => ?_⟩
          have e1 := j2 u hu
          obtain ⟨e2, e3⟩ := i2 u hu
          have hb := (bookTo_bd hm u k (by omega)).1
          rw [bookTo]
          unfold bumpV at e1
          unfold biteV
          have hno : nOf X.rq X.bs k = nAt X.rq X.bs k := rfl
          by_cases hin : rN X.bs k ≤ u ∧ u < rN X.bs k + lenOf X.rq X.bs k
          · rw [if_pos hin] at e1
            rw [if_pos hin]
            have := hl u hin.1 hin.2
            omega
          · rw [if_neg hin] at e1
            rw [if_neg hin]
            omega
        · cases h
      · cases h
theorem bookTo_up {X : Bk} (hm : meets X.rq X.bs = true) (u : Nat) : ∀ {k n : Nat}, k ≤ n → n ≤ X.bs.length → bookTo X u k ≤ bookTo X u n
  | k, 0, h, _ => by obtain rfl : k = 0 := by omega
                     exact Int.le_refl _
  | k, n + 1, h, hn => by
    by_cases e : k = n + 1
    · subst e; exact Int.le_refl _
    · have h1 := bookTo_up hm u (k := k) (n := n) (by omega) (by omega)
      have h2 := (biteV_bd hm (k := n) (by omega) u).1
      rw [bookTo]
      omega
/-- where there is room for all bites together they are held -/
theorem held_of {f : RunL} {X : Bk} (hf : Fine f) (hm : meets X.rq X.bs = true) (hr : ∀ u : Nat, u < 48 → 0 < bookTo X u X.bs.length → bookTo X u X.bs.length ≤ vals f u) : heldB f X.rq X.bs = true := by
  have key : ∀ k, k ≤ X.bs.length → ∃ g, heldTo f X.rq X.bs k = some g := by
    intro k
    induction k with
    | zero => intro _; exact ⟨f, rfl⟩
    | succ k ih =>
      intro hk
      obtain ⟨g, hg⟩ := ih (by omega)
      obtain ⟨i1, i2⟩ := held_val hf hm (by omega) hg
      obtain ⟨m1, m2, m3, m4, m5, m6, m7, m8⟩ := bite_all hm (show k < X.bs.length by omega)
      refine ⟨_, held_next hg i1 ⟨m3, m5, m6, m4, m7, m8⟩ fun u h1 h2 => ?_⟩
      have hu : u < 48 := by omega
      have e1 := (i2 u hu).1
      have h3 : bookTo X u (k + 1) = bookTo X u k + nAt X.rq X.bs k := by
        rw [bookTo]
        unfold biteV
        rw [if_pos ⟨h1, h2⟩]
      have h4 := bookTo_up hm u (k := k + 1) (n := X.bs.length) (by omega) (Nat.le_refl _)
      have h5 := (bookTo_bd hm u k (by omega)).1
      have h6 := hr u hu (by omega)
      rw [nOf_at]
      omega
  obtain ⟨g, hg⟩ := key _ (Nat.le_refl _)
  unfold heldB
  rw [hg]
  rfl
theorem held_room2 {f : RunL} {X : Bk} (hf : Fine f) (hm : meets X.rq X.bs = true) (hh : heldB f X.rq X.bs = true) {u : Nat} (hu : u < 48) : bookTo X u X.bs.length = 0 ∨ bookTo X u X.bs.length ≤ vals f u := by
  unfold heldB at hh
  obtain ⟨g, hg⟩ := Option.isSome_iff_exists.1 hh
  obtain ⟨_, h2⟩ := held_val hf hm (Nat.le_refl _) hg
  obtain ⟨h3, h4⟩ := h2 u hu
  rcases h4 with h4 | h4
  · exact Or.inl h4
  · exact Or.inr (by omega)

/-- a queue's room is no more than what each of its line has left -/
theorem room_le {l : QL} {b : BL} (h : Clean l b) {q : Int} (h1 : q < l.length) {p : Nat} (hp : (p : Int) ∈ lineOf l q) {t : Nat} (ht : t < 48) : vals (roomR l b q) t ≤ vals (qu l p).runs t - useTo l b p t b.length := by
  have e := (room_val h (lineOf l q) _ full_fine (line_in (right_of h.tree) h1)).2 t ht
  show vals (roomTo l (takenTo l b b.length) [(0, 1048576)] (lineOf l q)) t ≤ _
  rw [e]
  have key : ∀ (ps : List Int) (x : Int), minTo l (takenTo l b b.length) t x ps ≤ x ∧ ∀ y ∈ ps, minTo l (takenTo l b b.length) t x ps ≤ leftV l (takenTo l b b.length) y t := by
    intro ps
    induction ps with
    | nil => intro x; exact ⟨Int.le_refl _, fun y hy => by cases hy⟩
    | cons z ps ih =>
      intro x
      rw [minTo]
      obtain ⟨h1, h2⟩ := ih (min x (leftV l (takenTo l b b.length) z t))
      refine ⟨by omega, fun y hy => ?_⟩
      rcases List.mem_cons.1 hy with e | hy
      · subst e; omega
      · exact h2 y hy
  have := (key (lineOf l q) (vals [(0, 1048576)] t)).2 p hp
  unfold leftV at this
  rw [Int.toNat_natCast, ((taken_val h b.length (Nat.le_refl _) p).2 t ht).1] at this
  exact this
/-- and where each of them has so much left the queue has -/
theorem room_ge {l : QL} {b : BL} (h : Clean l b) {q : Int} (h1 : q < l.length) {t : Nat} (ht : t < 48) {x : Int} (hx : x ≤ 1048576) (hp : ∀ p : Nat, (p : Int) ∈ lineOf l q → x ≤ vals (qu l p).runs t - useTo l b p t b.length) : x ≤ vals (roomR l b q) t := by
  have e := (room_val h (lineOf l q) _ full_fine (line_in (right_of h.tree) h1)).2 t ht
  show x ≤ vals (roomTo l (takenTo l b b.length) [(0, 1048576)] (lineOf l q)) t
  rw [e]
  have hv : vals [(0, 1048576)] t = 1048576 := by
    have hs := full_fine
    obtain ⟨j, hj⟩ := reached_ex hs.rises (t := (t : Int)) (by omega)
    have hv := hj.val hs.rises
    have : j = 0 := by have := hj.1; simp at this; omega
    subst this
    rw [show vals [(0, 1048576)] t = valAt [(0, 1048576)] t from rfl, ← hv]
    rfl
  rw [hv]
  have key : ∀ (ps : List Int) (y : Int), x ≤ y → (∀ p ∈ ps, x ≤ leftV l (takenTo l b b.length) p t) → x ≤ minTo l (takenTo l b b.length) t y ps := by
    intro ps
    induction ps with
    | nil => intro y hy _; exact hy
    | cons z ps ih =>
      intro y hy hps
      rw [minTo]
      exact ih _ (by have := hps z (by simp); omega) (fun p hp => hps p (by simp [hp]))
  refine key _ _ hx fun p hpm => ?_
  have hpl := line_in (right_of h.tree) h1 p hpm
  have := hp p.toNat (by rw [Int.toNat_of_nonneg hpl.1]; exact hpm)
  unfold leftV
  rw [((taken_val h b.length (Nat.le_refl _) p.toNat).2 t ht).1]
  exact this

theorem bk_app {b : BL} {x : Bk} {i : Nat} (h : i < b.length) : bk (b ++ [x]) i = bk b i := by unfold bk; simp [List.getD, List.getElem?_append_left h]
theorem bk_end {b : BL} {x : Bk} : bk (b ++ [x]) b.length = x := by unfold bk; simp [List.getD]
/-- H1: what is submitted is right -/
theorem submit_sound {c n : Int} {l : QL} {b : BL} {X : Bk} (h : Sound c n l b) (hid : X.id = n) (hq : chkQR l X.rq = 0) (hfr : c ≤ X.rq.fr) (h12 : b.length < 12) (hn : n < 1048576)
    (hm : meets X.rq X.bs = true) (hh : heldB (roomR l b X.rq.queue) X.rq X.bs = true) : Sound c (n + 1) l (b ++ [X]) := by
  have hchk : chkB l X = 0 := by unfold chkB; rw [if_pos hq, if_pos hm]
  have hcl : Clean l (b ++ [X]) := ⟨h.clean.tree, by simp; omega, fun i hi => by
    by_cases e : i < b.length
    · rw [bk_app e]; exact h.clean.each i e
    · obtain rfl : i = b.length := by simp at hi; omega
      rw [bk_end]; exact hchk⟩
  obtain ⟨_, q0, q1⟩ := no_error_at h.clean.tree hchk
  have hF := room_fine h.clean q1
  have hn0 := h.n0
  refine ⟨hcl, h.c0, h.c48, by omega, by omega, fun i hi => ?_, fun i hi => ?_, fun q hq t ht1 ht2 => ?_⟩
  · by_cases e : i < b.length
    · rw [bk_app e]
      have h1 := h.rise i e
      refine ⟨?_, by omega⟩
      have h2 := h1.1
      unfold leastId at h2 ⊢
      by_cases e0 : i = 0
      · rw [if_pos e0] at h2 ⊢; exact h2
      · rw [if_neg e0] at h2 ⊢
        rw [bk_app (by omega)]
        exact h2
    · obtain rfl : i = b.length := by simp at hi; omega
      rw [bk_end, hid]
      refine ⟨?_, by omega⟩
      unfold leastId
      split
      · exact hn0
      · rename_i e0
        rw [bk_app (by omega)]
        have := (h.rise (b.length - 1) (by omega)).2
        omega
  · by_cases e : i < b.length
    · rw [bk_app e]; exact h.alive i e
    · obtain rfl : i = b.length := by simp at hi; omega
      rw [bk_end, (overV_met hm).2]
      have := meets_bounds hm
      omega
  · rw [use_all, List.map_append, List.sum_append, ← use_all]
    simp only [List.map_cons, List.map_nil, List.sum_cons, List.sum_nil]
    have h1 := h.fits q hq t ht1 ht2
    unfold oneV
    split
    · rename_i hl
      rcases held_room2 hF hm hh ht2 with h2 | h2
      · omega
      · have := room_le h.clean q1 hl ht2
        omega
    · omega

theorem drop_mem {b : BL} {i : Nat} {x : Bk} (h : x ∈ b.take i ++ b.drop (i + 1)) : x ∈ b := by
  rcases List.mem_append.1 h with h | h
  · exact List.mem_of_mem_take h
  · exact List.mem_of_mem_drop h
theorem bk_without {b : BL} {i j : Nat} (hi : i < b.length) : bk (b.take i ++ b.drop (i + 1)) j = if j < i then bk b j else bk b (j + 1) := by
  unfold bk
  rw [List.getD_eq_getElem?_getD, List.getElem?_append]
  have hl : (b.take i).length = i := by simp; omega
  rw [hl]
  by_cases e : j < i
  · rw [if_pos e, if_pos e, List.getElem?_take, if_pos e, List.getD_eq_getElem?_getD]
  · rw [if_neg e, if_neg e, List.getElem?_drop, List.getD_eq_getElem?_getD, show i + 1 + (j - i) = j + 1 from by omega]
/-- a right state without one of its books -/
theorem without_sound {c n : Int} {l : QL} {b : BL} (h : Sound c n l b) {i : Nat} (hi : i < b.length) : Sound c n l (b.take i ++ b.drop (i + 1)) := by
  have hlen : (b.take i ++ b.drop (i + 1)).length = b.length - 1 := by simp; omega
  have hcl : Clean l (b.take i ++ b.drop (i + 1)) := clean_sub h.clean (by have := h.clean.few; omega) (fun x hx => drop_mem hx)
  refine ⟨hcl, h.c0, h.c48, h.n0, h.n1, fun j hj => ?_, fun j hj => ?_, fun q hq t ht1 ht2 => ?_⟩
  · rw [hlen] at hj
    rw [bk_without hi]
    unfold leastId
    rw [bk_without hi]
    by_cases e : j < i
    · rw [if_pos e]
      have h1 := h.rise j (by omega)
      unfold leastId at h1
      by_cases e0 : j = 0
      · rw [if_pos e0] at h1 ⊢; exact h1
      · rw [if_neg e0] at h1 ⊢
        rw [if_pos (by omega)]
        exact h1
    · rw [if_neg e]
      have h1 := h.rise (j + 1) (by omega)
      have h2 := ids_low h (show j + 1 < b.length by omega)
      refine ⟨?_, h1.2⟩
      by_cases e0 : j = 0
      · rw [if_pos e0]; exact h2.1
      · rw [if_neg e0]
        by_cases e1 : j - 1 < i
        · rw [if_pos e1]
          have := ids_rise h (j := j + 1) (by omega) (i := j - 1) (by omega)
          omega
        · rw [if_neg e1, show j - 1 + 1 = j from by omega]
          have := ids_rise h (j := j + 1) (by omega) (i := j) (by omega)
          omega
  · rw [hlen] at hj
    rw [bk_without hi]
    split
    · exact h.alive j (by omega)
    · exact h.alive (j + 1) (by omega)
  · have h1 := h.fits q hq t ht1 ht2
    rw [use_all, sum_parts l q t hi] at h1
    have h2 := (oneV_bd (l := l) (clean_at h.clean (bk_mem hi)).1 q t).1
    rw [use_all]
    omega
/-- BookFree's: without it there is room for what it had -/
theorem free_held {c n : Int} {l : QL} {b : BL} (h : Sound c n l b) {i : Nat} (hi : i < b.length) (hfr : c ≤ (bk b i).rq.fr) : heldB (roomR l (b.take i ++ b.drop (i + 1)) (bk b i).rq.queue) (bk b i).rq (bk b i).bs = true := by
  have hcl := (without_sound h hi).clean
  obtain ⟨hm, q0, q1⟩ := clean_at h.clean (bk_mem hi)
  refine held_of (X := bk b i) (room_fine hcl q1) hm fun u hu hpos => ?_
  have hbd := bookTo_bd hm u (bk b i).bs.length (Nat.le_refl _)
  have hfew := meets_few hm
  have hcu : c ≤ u := by
    -- at u something is taken: a bite began there or sooner, from From on
    have key : ∀ k, k ≤ (bk b i).bs.length → 0 < bookTo (bk b i) u k → (bk b i).rq.fr ≤ u := by
      intro k
      induction k with
      | zero => intro _ h0; simp [bookTo] at h0
      | succ k ih =>
        intro hk h0
        rw [bookTo] at h0
        by_cases h1 : 0 < bookTo (bk b i) u k
        · exact ih (by omega) h1
        · unfold biteV at h0
          split at h0
          · rename_i hin
            have hbo := ((meets_split.1 hm).2.2 k (by omega))
            have := (inTime_at (biteOk_at hbo).2.1).1
            omega
          · omega
    have := key _ (Nat.le_refl _) hpos
    omega
  refine room_ge hcl q1 hu (by omega) fun p hp => ?_
  have hpl := line_in (right_of h.clean.tree) q1 p hp
  have h1 := h.fits p (by omega) u hcu hu
  rw [use_all, sum_parts l p u hi] at h1
  have h2 : oneV l p u (bk b i) = bookTo (bk b i) u (bk b i).bs.length := by unfold oneV; rw [if_pos hp]
  rw [use_all]
  omega
end Go.Proofs.YtecibbokbonmcaeGreat

/- A region that draws its order, as text AnyC; those operations may change whatever lies from block B0 on. -/
namespace Go.Proofs.YtecibbokbonmcaeGreat
open Go.RowKit

/-- number c answers, or stores; what is older than W0 is as it was, and what is not spoilt stands -/
def OpChgB (P : Program) (ops : Array Oper) (o : Oper) (ev : Operand → Value) (B0 : Nat) (W0 w : World) (D : Nat → Value → World → Prop) (dead : List Nat) (c : Nat) : Prop :=
  ∃ v w', ((execOp ev o).run P w = .ok (.value v) w' ∨ (execOp ev o).run P w = .ok .skip w' ∧ v = undef) ∧ (o.dst = none → v = undef) ∧ D c v w' ∧ Below B0 W0 w' ∧ ∀ i, i ≠ c → dead.contains i = false → (behindTo ops c ops.size).contains i = false → ∀ u, D i u w → D i u w'
/-- number i may look at number j: whoever spoils it is number i, or comes behind it -/
def lookB (ops : Array Oper) (cs : List (Nat × List Nat)) (i j : Nat) : Bool := cs.all fun x => !x.2.contains j || (i == x.1) || (behindTo ops i ops.size).contains x.1
theorem lookB_at {ops : Array Oper} {cs : List (Nat × List Nat)} {i j : Nat} (h : lookB ops cs i j = true) {c : Nat} {dead : List Nat} (hx : dd cs c = some dead) (hd : dead.contains j = true) : i = c ∨ c ∈ behindTo ops i ops.size := by
  have h := List.all_eq_true.1 h (c, dead) (dd_mem hx)
  simp only [hd, Bool.not_true, Bool.false_or, Bool.or_eq_true, beq_iff_eq] at h
  rcases h with h | h
  · exact Or.inl h
  · exact Or.inr (List.contains_iff_mem.1 h)
/-- whoever writes is number i, or comes behind it -/
def okW (ops : Array Oper) (cs : List (Nat × List Nat)) (i : Nat) : Bool := cs.all fun x => (i == x.1) || (behindTo ops i ops.size).contains x.1
/-- what is owed of number i -/
def OwedB (P : Program) (ops : Array Oper) (o : Oper) (ev : Operand → Value) (B0 : Nat) (W0 w : World) (D : Nat → Value → World → Prop) (cs : List (Nat × List Nat)) (i : Nat) : Prop := match dd cs i with
  | none => OpDoes P o ev w (D i)
  | some dead => OpChgB P ops o ev B0 W0 w D dead i

structure RInvB (ops : Array Oper) (cs : List (Nat × List Nat)) (B0 : Nat) (W0 : World) (T0 : Array Value) (df : List Deferred) (D : Nat → Value → World → Prop) (listed : Array Bool) (a : Act) (w : World) : Prop where
  size : listed.size = ops.size
  below : Below B0 W0 w
  belowS : (∀ c dead, dd cs c = some dead → listed.getD c false = false) → Below W0.heap.size W0 w
  df : a.defers = df
  tsize : a.tmps.size = T0.size
  old : ∀ d, notDst ops d = true → a.tmps.getD d undef = T0.getD d undef
  got : ∀ i o, ops[i]? = some o → (o.dst ≠ none ∨ dd cs i ≠ none) → listed.getD i false = true → ¬ spoilt cs listed i → D i (slotV o a.tmps) w
  closed : ∀ i o, ops[i]? = some o → listed.getD i false = true → ∀ j, waitsFor o j = true → listed.getD j false = true

theorem wpAny_chgB {P : Program} {ops : Array Oper} {Q : Exit → Act → World → Prop} {W0 : World} {T0 : Array Value} {df : List Deferred} {D : Nat → Value → World → Prop} {gs : List (Nat × Bool)} {cs : List (Nat × List Nat)} {B0 : Nat} (hB0 : B0 ≤ W0.heap.size)
    (hok : regOk ops gs T0.size = true) (hg : ∀ g ∈ gs, ∃ o d, ops[g.1]? = some o ∧ o.dst = some d ∧ ∀ v w, D g.1 v w → v = .bool g.2) (hgl : ∀ g ∈ gs, ∀ i, lookB ops cs i g.1 = true)
    (hD : ∀ i v w w', D i v w → Below w.heap.size w w' → D i v w')
    (hstep : ∀ i o, ops[i]? = some o → ∀ (T : Array Value) (w : World), (okW ops cs i = true → Below W0.heap.size W0 w) → Below B0 W0 w → (∀ d, notDst ops d = true → T.getD d undef = T0.getD d undef) →
      (∀ j oj d, ops[j]? = some oj → oj.dst = some d → waitsFor o j = true → lookB ops cs i j = true → D j (T.getD d undef) w) → OwedB P ops o (Act.eval ⟨T, df⟩) B0 W0 w D cs i)
    (hfin : ∀ (T : Array Value) (w : World), Below B0 W0 w → T.size = T0.size → (∀ d, notDst ops d = true → T.getD d undef = T0.getD d undef) → (∀ i o, ops[i]? = some o → (o.dst ≠ none ∨ dd cs i ≠ none) → spoiltB cs i = false → D i (slotV o T) w) → Q .normal ⟨T, df⟩ w) :
    ∀ (fuel : Nat) (listed : Array Bool) (a : Act) (w : World), unlisted listed ≤ fuel → RInvB ops cs B0 W0 T0 df D listed a w → wpAny P .any ops Q fuel listed a w := by
  have fin : ∀ (listed : Array Bool) (a : Act) (w : World), RInvB ops cs B0 W0 T0 df D listed a w → Region.ready .any ops listed = [] → Q .normal a w := by
    rintro listed ⟨T, ds⟩ w I hr
    obtain rfl : ds = df := I.df
    refine hfin T w I.below I.tsize I.old fun i o ho hd hdd => I.got i o ho hd (all_listed hok I.size hr i (Array.getElem?_eq_some_iff.1 ho).1) ?_
    rintro ⟨c, dead, hx, _, hxi⟩
    have : spoiltB cs i = true := List.any_eq_true.2 ⟨(c, dead), dd_mem hx, hxi⟩
    rw [hdd] at this
    cases this
  intro fuel
  induction fuel with
  | zero =>
    intro listed a w hf I
    have hr : Region.ready .any ops listed = [] := by
      cases hr : Region.ready .any ops listed with
      | nil => rfl
      | cons i l =>
        have : i ∈ Region.ready .any ops listed := by rw [hr]; simp
        have := unlisted_set (mem_ready.1 this).1
        omega
    exact ⟨hr, fin listed a w I hr⟩
  | succ fuel ih =>
    intro listed a w hf I
    refine ⟨fin listed a w I, fun i hi => ?_⟩
    obtain ⟨h0, o, ho, hall⟩ := mem_ready.1 hi
    have hil : i < listed.size := by have := (Array.getElem?_eq_some_iff.1 ho).1; have := I.size; omega
    have h0' : listed.getD i false = false := by simpa [hil] using h0
    have hcount := unlisted_set h0
    obtain ⟨T, ds⟩ := a
    obtain rfl : ds = df := I.df
    have hat := regOk_at hok ho
    have hwt : ∀ j, waitsFor o j = true → listed.getD j false = true := by
      intro j hw
      simp only [waitsFor, List.any_eq_true, Bool.and_eq_true, beq_iff_eq] at hw
      obtain ⟨e, he, hb, rfl⟩ := hw
      exact hall e (by simpa using he) hb
    have hdep : ∀ j oj d, ops[j]? = some oj → oj.dst = some d → waitsFor o j = true → lookB ops cs i j = true → D j (T.getD d undef) w := by
      intro j oj d hj hd hw hk
      have hgot : slotV oj T = T.getD d undef := by unfold slotV; rw [hd]
      rw [← hgot]
      refine I.got _ oj hj (Or.inl (by rw [hd]; simp)) (hwt j hw) ?_
      rintro ⟨c, dead, hx, hc, hdd⟩
      rcases lookB_at hk hx hdd with e | e
      · subst e
        rw [hc] at h0'
        cases h0'
      · rw [behind_listed I.closed e hc] at h0'
        cases h0'
    have hbs : okW ops cs i = true → Below W0.heap.size W0 w := fun hk => I.belowS fun c dead hx => by
      have h1 := List.all_eq_true.1 hk (c, dead) (dd_mem hx)
      simp only [Bool.or_eq_true, beq_iff_eq] at h1
      cases hc : listed.getD c false with
      | false => rfl
      | true =>
        rcases h1 with e | e
        · subst e
          rw [hc] at h0'
          cases h0'
        · rw [behind_listed I.closed (List.contains_iff_mem.1 e) hc] at h0'
          cases h0'
    have hw : Region.wanted o (yielded ops T) = true := by
      unfold Region.wanted
      cases hgd : o.guard with
      | none => rfl
      | some g =>
        obtain ⟨h1, h2⟩ := hat.2.2 g hgd
        obtain ⟨og, d, hog, hdg, hv⟩ := hg g h2
        have := hv _ _ (hdep g.1 og d hog hdg h1 (hgl g h2 i))
        have hdl : d < T.size := Nat.lt_of_lt_of_eq ((regOk_at hok hog).2.1 d hdg) I.tsize.symm
        simp [yielded_of hog hdg hdl this]
    have hset : ∀ m, listed.getD m false = true → (listed.setIfInBounds i true).getD m false = true := fun m hm => by
      by_cases e : i = m
      · subst e
        simp [hil]
      · rw [getD_set_ne false e]; exact hm
    have hclosed : ∀ j oj, ops[j]? = some oj → (listed.setIfInBounds i true).getD j false = true → ∀ k, waitsFor oj k = true → (listed.setIfInBounds i true).getD k false = true := by
      intro j oj hj hl k hk
      by_cases e : i = j
      · subst e
        rw [ho] at hj
        cases hj
        exact hset k (hwt k hk)
      · rw [getD_set_ne false e] at hl
        exact hset k (I.closed j oj hj hl k hk)
    have next : ∀ (v : Value) (w' : World), D i v w' → (o.dst = none → dd cs i ≠ none → v = undef) → Below B0 W0 w' → ((∀ c dead, dd cs c = some dead → (listed.setIfInBounds i true).getD c false = false) → Below W0.heap.size W0 w') → (∀ j, j ≠ i → (∀ dead, dd cs i = some dead → dead.contains j = false) → listed.getD j false = true → ∀ u, D j u w → D j u w') → wpAny P .any ops Q fuel (listed.setIfInBounds i true) (Act.put ⟨T, ds⟩ o.dst v) w' := by
      intro v w' hv hvu hb hbS hkeep
      refine ih _ _ _ (by omega) ?_
      have got' : ∀ j oj, ops[j]? = some oj → (oj.dst ≠ none ∨ dd cs j ≠ none) → i ≠ j → (listed.setIfInBounds i true).getD j false = true → ¬ spoilt cs (listed.setIfInBounds i true) j → D j (slotV oj T) w' := by
        intro j oj hj hdj e hl hdd
        rw [getD_set_ne false e] at hl
        refine hkeep j (Ne.symm e) (fun dead hx => ?_) hl _ (I.got j oj hj hdj hl ?_)
        · cases hc : dead.contains j with
          | false => rfl
          | true => exact absurd ⟨i, dead, hx, by simp [hil], hc⟩ hdd
        · rintro ⟨c, dead, hx, h1, h2⟩
          exact hdd ⟨c, dead, hx, hset _ h1, h2⟩
      cases hd : o.dst with
      | none =>
        refine ⟨by simpa using I.size, hb, hbS, rfl, I.tsize, I.old, fun j oj hj hdj hl hdd => ?_, hclosed⟩
        by_cases e : i = j
        · subst e
          rw [ho] at hj
          cases hj
          have hdn : dd cs i ≠ none := hdj.resolve_left (fun h => h hd)
          have : slotV o (Act.put ⟨T, ds⟩ none v).tmps = undef := by unfold slotV; rw [hd]
          rw [this, ← hvu hd hdn]
          exact hv
        · exact got' j oj hj hdj e hl hdd
      | some d0 =>
        have hd0 : d0 < T.size := Nat.lt_of_lt_of_eq (hat.2.1 d0 hd) I.tsize.symm
        refine ⟨by simpa using I.size, hb, hbS, rfl, by simpa [Act.put] using I.tsize, fun d hnd => ?_, fun j oj hj hdj hl hdd => ?_, hclosed⟩
        · have hne : d0 ≠ d := by
            rintro rfl
            simp only [notDst, Array.all_eq_true_iff_forall_mem] at hnd
            have := hnd o (Array.mem_of_getElem? ho)
            simp [hd] at this
          have := I.old d hnd
          simp only [Act.put] at this ⊢
          rw [← this]
          simp [Array.getElem?_setIfInBounds_ne hne]
        · by_cases e : i = j
          · subst e
            rw [ho] at hj
            cases hj
            unfold slotV
            rw [hd]
            simpa [Act.put, hd0] using hv
          · have := got' j oj hj hdj e hl hdd
            unfold slotV at this ⊢
            cases hjd : oj.dst with
            | none => rw [hjd] at this; exact this
            | some d =>
              have hne : d0 ≠ d := by
                rintro rfl
                exact e (regOk_dst hok ho hj hd hjd)
              rw [hjd] at this
              simp only [Act.put] at this ⊢
              simpa [Array.getElem?_setIfInBounds_ne hne] using this
    unfold wpOp
    simp only [ho, hw, if_true]
    refine Or.inl ?_
    unfold Oper.wp
    have hdo := hstep i o ho T w hbs I.below I.old hdep
    unfold OwedB at hdo
    cases hic : dd cs i with
    | some dead =>
      rw [hic] at hdo
      obtain ⟨v, w', hrun, hvu, hv, hb, hk⟩ := hdo
      have hn := next v w' hv (fun h _ => hvu h) hb (fun hnone => by have := hnone i dead hic; simp [hil] at this) (fun j hj hdd hlj u hu => hk j hj (hdd dead hic) (by
        cases hbb : (behindTo ops i ops.size).contains j with
        | false => rfl
        | true =>
          have := behind_listed I.closed (List.contains_iff_mem.1 hbb) hlj
          rw [this] at h0'
          cases h0') u hu)
      rcases hrun with hrun | ⟨hrun, rfl⟩
      · rw [hrun]
        exact hn
      · rw [hrun]
        exact hn
    | none =>
      rw [hic] at hdo
      rcases hdo with ⟨v, w', hrun, hv, hb⟩ | ⟨f, args, hrun, hc⟩
      · rw [hrun]
        exact next v w' hv (fun _ h => absurd hic h) (I.below.trans (hb.mono (Nat.le_trans hB0 I.below.size))) (fun hnone => by
          have hS := I.belowS fun c dead hx => by
            have h1 := hnone c dead hx
            by_cases e : i = c
            · subst e; rw [hic] at hx; cases hx
            · rwa [getD_set_ne false e] at h1
          exact hS.trans (hb.mono hS.size)) (fun j _ _ _ u hu => hD j u w w' hu hb)
      · rw [hrun]
        refine Calls.mono hc ?_
        rintro e w' ⟨v, rfl, hv, hb⟩
        exact next v w' hv (fun _ h => absurd hic h) (I.below.trans (hb.mono (Nat.le_trans hB0 I.below.size))) (fun hnone => by
          have hS := I.belowS fun c dead hx => by
            have h1 := hnone c dead hx
            by_cases e : i = c
            · subst e; rw [hic] at hx; cases hx
            · rwa [getD_set_ne false e] at h1
          exact hS.trans (hb.mono hS.size)) (fun j _ _ _ u hu => hD j u w w' hu hb)

theorem wp_region_chgB {P : Program} {Q : Exit → Act → World → Prop} {id : Nat} {T0 : Array Value} {df : List Deferred} {w : World} {ops0 : Array Oper} (ops : Array Oper) (heq : ops0 = ops) (Ds : List Des) (gs : List (Nat × Bool)) (cs : List (Nat × List Nat)) (B0 : Nat) (hB0 : B0 ≤ w.heap.size) (hm : P.follows .mixedOrders = true)
    (hok : regOk ops gs T0.size = true) (hgs : gsOk ops gs = true) (hgc : (gs.all fun g => !spoiltB cs g.1) = true) (hg : ∀ g ∈ gs, ∀ v w, desAt Ds g.1 v w → v = .bool g.2)
    (hstep : AllOps (fun i o => ∀ (T : Array Value) (w' : World), (okW ops cs i = true → Below w.heap.size w w') → Below B0 w w' → (∀ d, notDst ops d = true → T.getD d undef = T0.getD d undef) →
      (∀ j d, (dep ops i j d && lookB ops cs i j) = true → desAt Ds j (T.getD d undef) w') → OwedB P ops o (Act.eval ⟨T, df⟩) B0 w w' (desAt Ds) cs i) ops0.toList 0)
    (hfin : ∀ (T : Array Value) (w' : World), Below B0 w w' → T.size = T0.size → (∀ d, notDst ops d = true → T.getD d undef = T0.getD d undef) → (∀ i d, spoiltB cs i = false → dstAt ops i d = true → desAt Ds i (T.getD d undef) w') → (∀ c, noDst ops c = true → (dd cs c).isSome = true → spoiltB cs c = false → desAt Ds c undef w') → Q .normal ⟨T, df⟩ w') :
    (Code.region id ops0 true).wp P Q ⟨T0, df⟩ w := by
  have heq := heq.symm
  subst heq
  have hdep : ∀ (T : Array Value) (w' : World) (i : Nat) (o : Oper), ops[i]? = some o → (∀ j oj d, ops[j]? = some oj → oj.dst = some d → waitsFor o j = true → lookB ops cs i j = true → desAt Ds j (T.getD d undef) w') → ∀ j d, (dep ops i j d && lookB ops cs i j) = true → desAt Ds j (T.getD d undef) w' := by
    intro T w' i o ho hd j d hjj
    rw [Bool.and_eq_true] at hjj
    obtain ⟨hj, hk⟩ := hjj
    unfold dep at hj
    rw [ho] at hj
    cases hoj : ops[j]? with
    | none => rw [hoj] at hj; cases hj
    | some oj =>
      rw [hoj] at hj
      simp only [Bool.and_eq_true, beq_iff_eq] at hj
      exact hd j oj d hoj hj.2 hj.1 hk
  refine wp_region_any hm (wpAny_chgB (W0 := w.drewN 1) (df := df) (D := desAt Ds) (gs := gs) (cs := cs) (B0 := B0) hB0 hok (fun g hgm => ?_) (fun g hgm i => ?_) (fun i v w w' h hb => (Ds.getD i (isV undef)).2 v w w' h hb) (fun i o ho T w' hbS hb ht hd => ?_) (fun T w' hb hs ht hd => ?_) _ _ _ _ ?_ ?_)
  · have := List.all_eq_true.1 hgs g hgm
    cases ho : ops[g.1]? with
    | none => rw [ho] at this; cases this
    | some o =>
      rw [ho] at this
      obtain ⟨d, hd⟩ := Option.isSome_iff_exists.1 this
      exact ⟨o, d, rfl, hd, hg g hgm⟩
  · have h1 := List.all_eq_true.1 hgc g hgm
    refine List.all_eq_true.2 fun x hx => ?_
    cases hc : x.2.contains g.1 with
    | false => rfl
    | true =>
      have : spoiltB cs g.1 = true := List.any_eq_true.2 ⟨x, hx, hc⟩
      rw [this] at h1
      cases h1
  · have := hstep.at i o (by simpa using ho)
    rw [Nat.zero_add] at this
    have h := this T w' (fun hk => (below_drewN (Below.refl _ _) 1).trans (hbS hk)) ((below_drewN (Below.refl _ _) 1).trans hb) ht (hdep T w' i o ho hd)
    unfold OwedB at h ⊢
    cases hic : dd cs i with
    | none => rw [hic] at h; exact h
    | some dead =>
      rw [hic] at h
      obtain ⟨v, w'', h1, h1', h2, h3, h4⟩ := h
      exact ⟨v, w'', h1, h1', h2, ⟨h3.os, h3.tape, h3.output, h3.size, h3.block⟩, h4⟩
  · refine hfin T w' ((below_drewN (Below.refl _ _) 1).trans hb) hs ht (fun i d hdd hi => ?_) (fun c hn hs hdd => ?_)
    · unfold dstAt at hi
      cases ho : ops[i]? with
      | none => rw [ho] at hi; cases hi
      | some o =>
        rw [ho] at hi
        have hdo : o.dst = some d := by simpa using hi
        have := hd i o ho (Or.inl (by rw [hdo]; simp)) hdd
        unfold slotV at this
        rw [hdo] at this
        exact this
    · unfold noDst at hn
      cases ho : ops[c]? with
      | none => rw [ho] at hn; cases hn
      | some o =>
        rw [ho] at hn
        have hdo : o.dst = none := by simpa using hn
        have := hd c o ho (Or.inr (by intro h; rw [h] at hs; cases hs)) hdd
        unfold slotV at this
        rw [hdo] at this
        exact this
  · simp [unlisted]
  · exact ⟨by simp, Below.refl _ _, fun _ => Below.refl _ _, rfl, rfl, fun _ _ => rfl, fun i o ho _ hl => by
      have hi : i < ops.size := (Array.getElem?_eq_some_iff.1 ho).1
      simp [hi] at hl, fun i o ho hl => by
      have hi : i < ops.size := (Array.getElem?_eq_some_iff.1 ho).1
      simp [hi] at hl⟩
end Go.Proofs.YtecibbokbonmcaeGreat

/- Contract of book.Submit. -/
namespace Go.Proofs.YtecibbokbonmcaeGreat
open Go.RowKit

theorem OwnBks.later0 {w w' : World} {B : Nat} {v : Value} {b : BL} (h : OwnBks w B v b) (hb : Below w.heap.size w w') : OwnBks w' B v b := h.later hb
/-- a book was put behind the others, in a row of the call's own: W3 is the world ahead of it; B is another block -/
structure Made (Z W3 : World) (L S B : Nat) (aa : Option Addr) (bn k3 : Nat) (b' : BL) (X : Bk) (g9 k9 : Nat) : Prop where
  own : OwnBks Z S (.slice (some ⟨g9, 0, none⟩) (bn + 1) k9) (b' ++ [X])
  len : bn = b'.length
  ne : g9 ≠ B
  low : S ≤ g9
  blk : ∀ k, k < W3.heap.size → some k ≠ (Value.slice aa bn k3).ownBlock → Z.heap[k]? = W3.heap[k]?
  size : W3.heap.size ≤ Z.heap.size
  offP : ∀ i, i < (b' ++ [X]).length → 0 < (bk (b' ++ [X]) i).rq.pn → ∀ g off, (bk (b' ++ [X]) i).rq.pa = some ⟨g, off, none⟩ → L ≤ g ∧ g ≠ B
  offB : ∀ i, i < (b' ++ [X]).length → 0 < (bk (b' ++ [X]) i).bn → ∀ g off, (bk (b' ++ [X]) i).ba = some ⟨g, off, none⟩ → L ≤ g ∧ g ≠ B
theorem Made.later {Z Y W3 : World} {L S B : Nat} {aa : Option Addr} {bn k3 : Nat} {b' : BL} {X : Bk} {g9 k9 : Nat} (h : Made Z W3 L S B aa bn k3 b' X g9 k9) (hb : Below Z.heap.size Z Y) : Made Y W3 L S B aa bn k3 b' X g9 k9 :=
  ⟨h.own.later hb, h.len, h.ne, h.low, fun k hk hk2 => (hb.block k (by have := h.size; omega)).trans (h.blk k hk hk2), Nat.le_trans h.size hb.size, h.offP, h.offB⟩
theorem made_by (w' W3 : World) (L S B : Nat) (aa : Option Addr) (bn k3 : Nat) (b' : BL) (X : Bk) (gL : Nat) (ty : TypeId) (hO : OwnBks W3 S (.slice aa bn k3) b') (hb : Below W3.heap.size W3 w')
    (hL : w'.heap[gL]? = some (.cells #[.int .i64 X.id, .int .i64 X.rq.queue, .int .i64 X.rq.fr, .int .i64 X.rq.un, .int .i64 X.rq.kind, .slice X.rq.pa X.rq.pn X.rq.pc, .slice X.ba X.bn X.bc] 43 (0, 0)))
    (hbn : bn = b'.length) (h12 : bn ≤ 12) (hS : S ≤ W3.heap.size) (hB : B < W3.heap.size) (hr : RunsIn w' X.rq.pa X.rq.pn X.rq.pc X.rq.ps)
    (hfB : ∀ i, i < b'.length → (0 < (bk b' i).rq.pn → ∀ g off, (bk b' i).rq.pa = some ⟨g, off, none⟩ → L ≤ g ∧ g ≠ B) ∧ (0 < (bk b' i).bn → ∀ g off, (bk b' i).ba = some ⟨g, off, none⟩ → L ≤ g ∧ g ≠ B)) (hLS : L ≤ S)
    (hpn : 0 < X.rq.pn → ∀ b off, X.rq.pa = some ⟨b, off, none⟩ → W3.heap.size ≤ b) (hrow : ∀ g, (Value.slice aa bn k3).ownBlock = some g → g ≠ B ∧ g < W3.heap.size)
    (hXb : 0 < X.bn → ∀ b off, X.ba = some ⟨b, off, none⟩ → (L ≤ b ∧ b ≠ B) ∧ b < W3.heap.size ∧ (Value.slice aa bn k3).ownBlock ≠ some b) (hbt : RunsIn w' X.ba X.bn X.bc X.bs) :
    ∃ g9 k9 w'', (Builtin.append_ #[23, 23] ty #[.slice aa bn k3, .slice (some ⟨gL, 0, none⟩) 1 1]).run Tryz.prog w' = .ok (.slice (some ⟨g9, 0, none⟩) (bn + 1) k9) w'' ∧ Made w'' W3 L S B aa bn k3 b' X g9 k9 ∧ Below S W3 w'' := by
  subst hbn
  obtain ⟨i0, hi, e⟩ := Option.map_eq_some_iff.1 infoBook
  simp only [Prod.mk.injEq] at e
  obtain ⟨e1, e2, e3⟩ := e
  have hO' := hO.later hb
  obtain ⟨g9, k9, w'', h1, h2, h3, h4, h5⟩ := run_append_lies w' 23 ty S 43 i0 _ 7 88 Tryz.underlying23 hi e1 e2 e3 (by rfl) (by omega) (.slice aa b'.length k3) b'.length (bkCells b') hO'.row ⟨gL, 0, none⟩ 1 1 (bkCell X) (by simp [bkCell])
    (fun j u hu => by rw [Addr.add_lit, Nat.zero_add, cell_of_row w' gL j _ _ _ hL]; simpa [bkCell] using hu) (fun u hu => bkCells_one [X] u (by simpa [bkCells] using hu)) (by omega) (by simp only [maxLen]; omega) (by omega) (Nat.le_trans hS hb.size) w'.heap.size rfl
  have hlow := h2.lt g9 rfl
  have hg9 : (Value.slice aa b'.length k3).ownBlock = some g9 ∨ w'.heap.size ≤ g9 := by
    rcases h4 with h4 | h4
    · exact Or.inl h4
    · exact Or.inr (by omega)
  have hkeep : ∀ {a : Option Addr} {n cap : Nat} {l : RunL}, RunsIn w' a n cap l → (0 < n → ∀ b off, a = some ⟨b, off, none⟩ → (Value.slice aa b'.length k3).ownBlock ≠ some b) → RunsIn w'' a n cap l := fun h hn => h.of_away fun hp b off e => h3.block b (h.lt hp e) (fun e2 => hn hp b off e e2.symm)
  have hsz := hb.size
  have hXp : 0 < X.rq.pn → ∀ b off, X.rq.pa = some ⟨b, off, none⟩ → (Value.slice aa b'.length k3).ownBlock ≠ some b := fun hp b off e e2 => by have := hpn hp b off e; have := (hrow b e2).2; omega
  refine ⟨g9, k9, w'', h1, ⟨⟨?_, fun i hi => ?_, fun i hi => ?_, fun i hi hp g off e e2 => ?_, fun i hi hp g off e e2 => ?_⟩, rfl, ?_, hlow.1, fun k hk hk2 => ?_, Nat.le_trans hsz h3.size, fun i hi => ?_, fun i hi => ?_⟩, ?_⟩
  · rw [List.length_append, List.length_singleton, bkCells_app]
    have : bkCells [X] = bkCell X := by simp [bkCells]
    rw [this]
    exact h2
  · by_cases e : i < b'.length
    · rw [bk_app e]; exact hkeep (hO'.rqs i e) (hO'.farP i e)
    · obtain rfl : i = b'.length := by simp at hi; omega
      rw [bk_end]; exact hkeep hr hXp
  · by_cases e : i < b'.length
    · rw [bk_app e]; exact hkeep (hO'.bites i e) (hO'.farB i e)
    · obtain rfl : i = b'.length := by simp at hi; omega
      rw [bk_end]; exact hkeep hbt (fun hp b off e => (hXb hp b off e).2.2)
  · have e2 : g9 = g := by simpa [Value.ownBlock] using e2
    subst e2
    by_cases e3 : i < b'.length
    · rw [bk_app e3] at hp e
      rcases hg9 with h | h
      · exact hO'.farP i e3 hp g9 off e h
      · have := RunsIn.lt (hO'.rqs i e3) hp e; omega
    · obtain rfl : i = b'.length := by simp at hi; omega
      rw [bk_end] at hp e
      rcases hg9 with h | h
      · exact hXp hp g9 off e h
      · have := hr.lt hp e; omega
  · have e2 : g9 = g := by simpa [Value.ownBlock] using e2
    subst e2
    by_cases e3 : i < b'.length
    · rw [bk_app e3] at hp e
      rcases hg9 with h | h
      · exact hO'.farB i e3 hp g9 off e h
      · have := (hO'.bites i e3).lt hp e; omega
    · obtain rfl : i = b'.length := by simp at hi; omega
      rw [bk_end] at hp e
      rcases hg9 with h | h
      · exact (hXb hp g9 off e).2.2 h
      · have := hbt.lt hp e; omega
  · rcases hg9 with h | h
    · exact (hrow g9 h).1
    · omega
  · rw [h3.block k (by omega) hk2]
    exact hb.block k hk
  · by_cases e : i < b'.length
    · rw [bk_app e]; exact (hfB i e).1
    · obtain rfl : i = b'.length := by simp at hi; omega
      rw [bk_end]
      intro hp g off e2
      have := hpn hp g off e2
      omega
  · by_cases e : i < b'.length
    · rw [bk_app e]; exact (hfB i e).2
    · obtain rfl : i = b'.length := by simp at hi; omega
      rw [bk_end]
      exact fun hp g off e2 => (hXb hp g off e2).1
  · exact (hb.mono hS).grown h3 (Nat.le_trans hS hsz) (fun k e => (hO'.row.lt k e).1)
/-- and its slice is laid in the state's box B -/
structure Made2 (Z W3 : World) (L S B : Nat) (aa : Option Addr) (bn k3 : Nat) (b' : BL) (X : Bk) (g9 k9 : Nat) (c n : Int) (tv : Value) : Prop where
  own : OwnBks Z S (.slice (some ⟨g9, 0, none⟩) (bn + 1) k9) (b' ++ [X])
  len : bn = b'.length
  low : S ≤ g9
  box : StBox Z B (.int .i64 c) (.int .i64 n) tv (.slice (some ⟨g9, 0, none⟩) (bn + 1) k9)
  blk : ∀ k, k < W3.heap.size → k ≠ B → some k ≠ (Value.slice aa bn k3).ownBlock → Z.heap[k]? = W3.heap[k]?
  size : W3.heap.size ≤ Z.heap.size
  ne : g9 ≠ B
  offP : ∀ i, i < (b' ++ [X]).length → 0 < (bk (b' ++ [X]) i).rq.pn → ∀ g off, (bk (b' ++ [X]) i).rq.pa = some ⟨g, off, none⟩ → L ≤ g ∧ g ≠ B
  offB : ∀ i, i < (b' ++ [X]).length → 0 < (bk (b' ++ [X]) i).bn → ∀ g off, (bk (b' ++ [X]) i).ba = some ⟨g, off, none⟩ → L ≤ g ∧ g ≠ B
theorem Made2.later {Z Y W3 : World} {L S B : Nat} {aa : Option Addr} {bn k3 : Nat} {b' : BL} {X : Bk} {g9 k9 : Nat} {c n : Int} {tv : Value} (h : Made2 Z W3 L S B aa bn k3 b' X g9 k9 c n tv) (hb : Below Z.heap.size Z Y) : Made2 Y W3 L S B aa bn k3 b' X g9 k9 c n tv :=
  ⟨h.own.later hb, h.len, h.low, h.box.later hb, fun k hk hk2 hk3 => (hb.block k (by have := h.size; omega)).trans (h.blk k hk hk2 hk3), Nat.le_trans h.size hb.size, h.ne, h.offP, h.offB⟩
theorem Made.store {Z W3 : World} {L S B : Nat} {aa : Option Addr} {bn k3 : Nat} {b' : BL} {X : Bk} {g9 k9 : Nat} (h : Made Z W3 L S B aa bn k3 b' X g9 k9) (hb : Below S W3 Z) {c n : Int} {tv : Value} (hx : StBox W3 B (.int .i64 c) (.int .i64 n) tv (.slice aa bn k3) ∧ some B ≠ (Value.slice aa bn k3).ownBlock) (hB : S ≤ B ∧ B < W3.heap.size) :
    Made2 (Z.setCell ⟨B, 3, none⟩ (.slice (some ⟨g9, 0, none⟩) (bn + 1) k9)) W3 L S B aa bn k3 b' X g9 k9 c n tv ∧ Z.cell? ⟨B, 3, none⟩ = some (.slice aa bn k3) ∧ Z.frozen? ⟨B, 3, none⟩ = false ∧ Below S W3 (Z.setCell ⟨B, 3, none⟩ (.slice (some ⟨g9, 0, none⟩) (bn + 1) k9)) := by
  have hz : StBox Z B (.int .i64 c) (.int .i64 n) tv (.slice aa bn k3) := (h.blk B hB.2 hx.2).trans hx.1
  refine ⟨⟨?_, h.len, h.low, ?_, fun k hk hk2 hk3 => ?_, ?_, h.ne, h.offP, h.offB⟩, hz.cells.2.2.2, frozen_of_row Z B 3 _ _ hz, hb.setCell (p := ⟨B, 3, none⟩) hB.1 _⟩
  · refine h.own.blocks (fun g e => heap_setCell_other Z ⟨B, 3, none⟩ g _ ?_) (fun i hi hp g off e => heap_setCell_other Z ⟨B, 3, none⟩ g _ (h.offP i hi hp g off e).2) (fun i hi hp g off e => heap_setCell_other Z ⟨B, 3, none⟩ g _ (h.offB i hi hp g off e).2)
    have e : g9 = g := by simpa [Value.ownBlock] using e
    subst e
    exact h.ne
  · unfold StBox
    rw [heap_setCell_same Z B 3 _ _ _ hz]
    rfl
  · rw [heap_setCell_other Z ⟨B, 3, none⟩ k _ hk2]
    exact h.blk k hk hk3
  · have := h.size
    simp only [World.setCell, Array.size_modify]
    omega
end Go.Proofs.YtecibbokbonmcaeGreat

/- book.Submit: what it tells, where it refuses. -/
namespace Go.Proofs.YtecibbokbonmcaeGreat
open Go.RowKit

def subE (c n : Int) (l : QL) (b : BL) (r : Rq) : Int := if seekE c n l b r = 0 then (if 12 ≤ b.length ∨ 1048576 ≤ n then 2 else if (placeR l b r).2 = true then 0 else 8) else seekE c n l b r
theorem seek_ok {c n : Int} {l : QL} {b : BL} {r : Rq} (h : seekE c n l b r = 0) : planE c n l b = 0 ∧ chkQR l r = 0 ∧ c ≤ r.fr := by
  unfold seekE at h
  split at h
  · rename_i h1
    split at h
    · rename_i h2
      split at h
      · cases h
      · exact ⟨h1, h2, by omega⟩
    · contradiction
  · contradiction
theorem sub_ok {c n : Int} {l : QL} {b : BL} {r : Rq} (h : subE c n l b r = 0) : seekE c n l b r = 0 ∧ b.length < 12 ∧ n < 1048576 ∧ (placeR l b r).2 = true := by
  unfold subE at h
  split at h
  · rename_i h1
    split at h
    · cases h
    · split at h
      · rename_i h2 h3
        exact ⟨h1, by omega, by omega, h3⟩
      · cases h
  · contradiction
theorem three_boxes (w : World) (a b c d : Value) (r : Rq) {W : World} (hW : W = ((w.alloc (.cells #[a, b, c, d] 25)).alloc (.cells #[.int .i64 r.queue, .int .i64 r.fr, .int .i64 r.un, .int .i64 r.kind, .slice r.pa r.pn r.pc] 40)).alloc (.cells #[.int .i64 0, .int .i64 0, .slice none 0 0, .slice none 0 0] 25)) : StBox W w.heap.size a b c d ∧ RqBox W (w.heap.size + 1) r ∧ StBox W (w.heap.size + 2) (.int .i64 0) (.int .i64 0) (.slice none 0 0) (.slice none 0 0) ∧ Below w.heap.size w W ∧ W.heap.size = w.heap.size + 3 := by
  subst hW
  obtain ⟨h1, h2, h3, h4⟩ := two_boxes w a b c d r rfl
  obtain ⟨V, hV⟩ : ∃ V, V = (w.alloc (.cells #[a, b, c, d] 25)).alloc (.cells #[.int .i64 r.queue, .int .i64 r.fr, .int .i64 r.un, .int .i64 r.kind, .slice r.pa r.pn r.pc] 40) := ⟨_, rfl⟩
  rw [← hV] at h1 h2 h3 h4 ⊢
  have hb : Below V.heap.size V (V.alloc (.cells #[.int .i64 0, .int .i64 0, .slice none 0 0, .slice none 0 0] 25)) := (Below.refl _ _).alloc (Nat.le_refl _) _
  refine ⟨h1.later hb, h2.later hb, ?_, below_from h3 hb, by simp; omega⟩
  have := StBox.new V (.int .i64 0) (.int .i64 0) (.slice none 0 0) (.slice none 0 0)
  rw [h4] at this
  exact this

end Go.Proofs.YtecibbokbonmcaeGreat

/- book.Submit: the book that is put behind the others. -/
namespace Go.Proofs.YtecibbokbonmcaeGreat
open Go.RowKit

theorem OwnQs.blocks2 {w w' : World} {B : Nat} {v : Value} {l : QL} (h : OwnQs w B v l) (h0 : ∀ g, v.ownBlock = some g → w'.heap[g]? = w.heap[g]?) (h1 : ∀ i, i < l.length → 0 < (qu l i).cn → ∀ g off, (qu l i).ca = some ⟨g, off, none⟩ → w'.heap[g]? = w.heap[g]?) : OwnQs w' B v l := by
  refine ⟨⟨h.row.1, ?_⟩, fun i hi => (h.caps i hi).of_away (h1 i hi), h.far, h.names⟩
  rcases h.row.2 with hz | ⟨g, cap, cur, rfl, hB, hg, rest⟩
  · exact .inl hz
  · exact .inr ⟨g, cap, cur, rfl, hB, (h0 g rfl).trans hg, rest⟩
theorem pieces_few {l : QL} {r : Rq} (h : chkQR l r = 0) : r.ps.length ≤ 3 := by
  unfold chkQR at h
  split at h
  · by_cases k : 1 ≤ r.kind ∧ r.kind ≤ 4
    · by_cases p : (1 : Int) ≤ r.ps.length ∧ (r.ps.length : Int) ≤ 3
      · omega
      · rw [chkR_2 k p] at h; cases h
    · rw [chkR_7 k] at h; cases h
  · contradiction
theorem modest_of {w : World} {ta : Option Addr} {tn tc : Nat} {l : QL} {ba : Option Addr} {bn bc : Nat} {b : BL} (h : StIn w ta tn tc l ba bn bc b) (hc : Clean l b) : Modest tn l bn b := by
  obtain ⟨h1, h2, h3⟩ := caps_few h.1 hc.tree
  have hbl := h.2.len
  have hfew := hc.few
  refine ⟨h1, by omega, fun i hi => by have := h3 i hi; omega, by omega, fun i hi => ?_, fun i hi => ?_⟩
  · have e1 := RunsIn.len (h.2.rqs i hi)
    have e2 : (bk b i).rq.ps.length ≤ 3 := by
      have := hc.each i (by omega)
      unfold chkB at this
      split at this
      · rename_i h4
        exact pieces_few h4
      · contradiction
    omega
  · have e1 := (h.2.bites i hi).len
    have e2 := meets_few (no_error_at hc.tree (hc.each i (by omega))).1
    omega
theorem own_bks_is {w : World} {B : Nat} {a : Option Addr} {m k : Nat} {b : BL} (h : OwnBks w B (.slice a m k) b) : BksIn w a m k b := by
  obtain ⟨a', k', e, h1, _⟩ := h.bks
  simp only [Value.slice.injEq] at e
  obtain ⟨rfl, rfl, rfl⟩ := e
  exact h1
theorem own_qs_is {w : World} {B : Nat} {a : Option Addr} {m k : Nat} {l : QL} (h : OwnQs w B (.slice a m k) l) : QsIn w a m k l := by
  obtain ⟨a', k', e, h1, _⟩ := h.qs
  simp only [Value.slice.injEq] at e
  obtain ⟨rfl, rfl, rfl⟩ := e
  exact h1

/-- what Submit answers where it books -/
def SubAns (w w' : World) (e : Ending) (c n : Int) (tn bn : Nat) (l : QL) (bx : BL) : Prop := ∃ g k1 l' g9 k9 b9, e = .returned (.tuple #[.agg #[.int .i64 c, .int .i64 (n + 1), .slice (some ⟨g, 0, none⟩) tn k1, .slice (some ⟨g9, 0, none⟩) (bn + 1) k9], .int .i64 n, .int .i64 0]) ∧ StIn w' (some ⟨g, 0, none⟩) tn k1 l' (some ⟨g9, 0, none⟩) (bn + 1) k9 b9 ∧ bareQ l' = bareQ l ∧ bareB b9 = bareB bx ∧ Below w.heap.size w w'
end Go.Proofs.YtecibbokbonmcaeGreat

/- slices.Delete of books, in a row of the call's own. -/
namespace Go.Proofs.YtecibbokbonmcaeGreat
open Go.RowKit

def zeroB : Value := .agg #[.int .i64 0, .int .i64 0, .int .i64 0, .int .i64 0, .int .i64 0, .slice none 0 0, .slice none 0 0]
theorem zeroBook (w : World) : (zeroValue 43).run Tryz.prog w = .ok zeroB w := by kernel_rfl
theorem zeros_len (n : Nat) : (Builtin.zeroCells zeroB.cells n).toList.length = n * 7 := by
  rw [Array.length_toList, size_zeroCells]; rfl
theorem zeros_one (n : Nat) : ∀ v ∈ (Builtin.zeroCells zeroB.cells n).toList, v.oneCell' = true := by
  intro v hv
  simp only [Builtin.zeroCells, Array.toList_map, List.mem_map] at hv
  obtain ⟨i, _, rfl⟩ := hv
  have h7 : zeroB.cells.size = 7 := rfl
  rw [h7]
  have hj : i % 7 < 7 := Nat.mod_lt _ (by omega)
  generalize i % 7 = j at hj
  match j, hj with
  | 0, _ => rfl
  | 1, _ => rfl
  | 2, _ => rfl
  | 3, _ => rfl
  | 4, _ => rfl
  | 5, _ => rfl
  | 6, _ => rfl
theorem setCells_row (w : World) (g o : Nat) (cur : Array Value) (t : TypeId) (vs : List Value) (hg : w.heap[g]? = some (.cells cur t (0, 0))) (hfit : o + vs.length ≤ cur.size) (h1 : ∀ v ∈ vs, v.oneCell' = true) :
    w.setCells g o vs = w.setRow g (cur.toList.take o ++ vs ++ cur.toList.drop (o + vs.length)).toArray := by
  have e1 := run_storeCells_at Tryz.prog g o t vs 0 cur w hg (by omega) h1
  have e2 := run_storeCells_cells (P := Tryz.prog) g o vs 0 w (fun j hj => by
    rw [cell_of_row w g _ _ _ _ hg, Array.getElem?_eq_getElem (by omega)]; rfl) (fun j hj => frozen_of_row w g _ _ _ hg) h1
  simp only [Nat.add_zero] at e1 e2
  rw [e1] at e2
  injection e2 with _ e2
  exact e2.symm
theorem clear_books (w : World) (g o n c : Nat) (ty : TypeId) (cur : Array Value) (hg : w.heap[g]? = some (.cells cur 43 (0, 0))) (hn : 0 < n) (hfit : o + n * 7 ≤ cur.size) :
    (Builtin.clear_ #[23] ty #[.slice (some ⟨g, o, none⟩) n c]).run Tryz.prog w = .ok (.tuple #[]) (w.setRow g (cur.toList.take o ++ (Builtin.zeroCells zeroB.cells n).toList ++ cur.toList.drop (o + n * 7)).toArray) := by
  have hst := run_storeCells_at Tryz.prog g o 43 (Builtin.zeroCells zeroB.cells n).toList 0 cur w hg (by rw [zeros_len]; omega) (zeros_one n)
  simp only [Nat.add_zero, zeros_len] at hst
  obtain ⟨m, rfl⟩ : ∃ m, n = m + 1 := ⟨n - 1, by omega⟩
  simp only [Builtin.clear_]
  simp [run_underlying Tryz.underlying23]
  unfold zeroB at hst
  rw [hst]
  simp [Result.andThen, zeroB]
theorem bkCells_take (b : BL) (i : Nat) (hi : i ≤ b.length) : (bkCells b).take (i * 7) = bkCells (b.take i) := by
  have e : bkCells b = bkCells (b.take i) ++ bkCells (b.drop i) := by rw [← bkCells_app, List.take_append_drop]
  have hl : (bkCells (b.take i)).length = i * 7 := by rw [bkCells_length]; simp; omega
  rw [e, ← hl, List.take_left]
theorem bkCells_drop (b : BL) (i : Nat) (hi : i ≤ b.length) : (bkCells b).drop (i * 7) = bkCells (b.drop i) := by
  have e : bkCells b = bkCells (b.take i) ++ bkCells (b.drop i) := by rw [← bkCells_app, List.take_append_drop]
  have hl : (bkCells (b.take i)).length = i * 7 := by rw [bkCells_length]; simp; omega
  rw [e, ← hl, List.drop_left]
theorem setRow_size (w : World) (g : Nat) (cs : Array Value) : (w.setRow g cs).heap.size = w.heap.size := by simp [World.setRow]
theorem Below.setRow {B : Nat} {a w : World} (h : Below B a w) {g : Nat} (hg : B ≤ g) (cs : Array Value) : Below B a (w.setRow g cs) :=
  h.trans ⟨rfl, rfl, rfl, by rw [setRow_size]; exact Nat.le_refl _, fun k hk => setRow_other w g k cs (by omega)⟩

set_option maxHeartbeats 4000000 in
set_option maxRecDepth 1000000 in
theorem Delete_any (w : World) (g bn k : Nat) (cur : Array Value) (b : BL) (i j : Nat) (hij : i < j) (hj : j ≤ bn) (hbl : bn = b.length) (hle : bn ≤ k) (_hm : k ≤ 9223372036854775807) (hg : w.heap[g]? = some (.cells cur 43 (0, 0))) (hcs : cur.size = k * 7) (htk : cur.toList.take (bn * 7) = bkCells b) :
    Calls Tryz.prog 88 #[.slice (some ⟨g, 0, none⟩) bn k, .int .i64 i, .int .i64 j] w fun e w' => e = .returned (.slice (some ⟨g, 0, none⟩) (bn - (j - i)) k) ∧ (∃ cur', w'.heap[g]? = some (.cells cur' 43 (0, 0)) ∧ cur'.size = k * 7 ∧ cur'.toList.take ((bn - (j - i)) * 7) = bkCells (b.take i ++ b.drop j)) ∧ (∀ x, x ≠ g → w'.heap[x]? = w.heap[x]?) ∧ w'.heap.size = w.heap.size ∧ ∀ B, B ≤ g → Below B w w' := by
  obtain ⟨i0, hi, e⟩ := Option.map_eq_some_iff.1 infoBook
  simp only [Prod.mk.injEq] at e
  obtain ⟨_, hz1, _⟩ := e
  obtain ⟨news, hnews⟩ : ∃ news, news = bkCells (b.drop j) := ⟨_, rfl⟩
  have hlen : news.length = (bn - j) * 7 := by rw [hnews, bkCells_length]; simp; omega
  have hdr : (cur.toList.take (bn * 7)).drop (j * 7) = news := by rw [htk, hnews, bkCells_drop b j (by omega)]
  have hget : ∀ (t : Nat) u, news[t]? = some u → cur[j * 7 + t]? = some u := fun t u hu => by
    rw [← hdr, List.getElem?_drop, List.getElem?_take] at hu
    split at hu
    · rw [← Array.getElem?_toList]; exact hu
    · cases hu
  obtain ⟨A, hA, hsrc⟩ : ∃ A : Addr, (if k = j then some (⟨g, 0, none⟩ : Addr) else some ⟨g, j * 7, none⟩) = some A ∧ Hid (∀ t u, news[t]? = some u → w.drew.cell? (A.add t) = some u) := by
    by_cases h : k = j
    · refine ⟨⟨g, 0, none⟩, by simp [h], fun t u hu => ?_⟩
      have h0 : news.length = 0 := by rw [hlen]; omega
      rw [List.length_eq_zero_iff.1 h0] at hu
      simp at hu
    · refine ⟨⟨g, j * 7, none⟩, by simp [h], fun t u hu => ?_⟩
      rw [Addr.add_lit]
      show w.cell? _ = _
      rw [cell_of_row w g _ _ _ _ hg]
      exact hget t u hu
  have s1 : Hid (news.length = (bn - j) * 7) := hlen
  have s2 : Hid (∀ u ∈ news, u.oneCell' = true) := by rw [hnews]; exact bkCells_one _
  have s3 : Hid (∀ t, t < news.length → (w.drew.cell? ⟨g, 0 + i * 7 + t, none⟩).isSome = true ∧ w.drew.frozen? ⟨g, 0 + i * 7 + t, none⟩ = false) := by
    intro t ht
    rw [hlen] at ht
    refine ⟨?_, frozen_of_row w.drew g _ _ _ hg⟩
    show (w.cell? _).isSome = true
    rw [cell_of_row w g _ _ _ _ hg, Array.getElem?_eq_getElem (by omega)]
    rfl
  obtain ⟨W1, hW1⟩ : ∃ W1, W1 = w.drew.setCells g (0 + i * 7) news := ⟨_, rfl⟩
  obtain ⟨c1, hc1⟩ : ∃ c1, c1 = (cur.toList.take (i * 7) ++ news ++ cur.toList.drop (i * 7 + news.length)).toArray := ⟨_, rfl⟩
  have hW1' : W1 = w.drew.setRow g c1 := by
    rw [hW1, hc1, Nat.zero_add]
    exact setCells_row w.drew g (i * 7) cur 43 news hg (by omega) s2.out
  have hc1s : c1.size = k * 7 := by rw [hc1]; simp; omega
  have hc1t : c1.toList.take ((i + (bn - j)) * 7) = bkCells (b.take i ++ b.drop j) := by
    have h1 : cur.toList.take (i * 7) = bkCells (b.take i) := by rw [← bkCells_take b i (by omega), ← htk, List.take_take]; congr 1; omega
    have h2 : (bkCells (b.take i) ++ news).length = (i + (bn - j)) * 7 := by rw [List.length_append, hlen, bkCells_length]; simp; omega
    rw [hc1, h1, ← h2]
    show ((bkCells (b.take i) ++ news) ++ _).take _ = _
    rw [List.take_left, hnews, bkCells_app]
  have hg1 : W1.heap[g]? = some (.cells c1 43 (0, 0)) := by rw [hW1']; exact setRow_heap w.drew g cur _ _ _ hg
  obtain ⟨c2, hc2⟩ : ∃ c2, c2 = (c1.toList.take ((i + (bn - j)) * 7) ++ (Builtin.zeroCells zeroB.cells (bn - (i + (bn - j)))).toList ++ c1.toList.drop ((i + (bn - j)) * 7 + (bn - (i + (bn - j))) * 7)).toArray := ⟨_, rfl⟩
  have hcl : ∀ ty, (Builtin.clear_ #[23] ty #[.slice (some ⟨g, (i + (bn - j)) * 7, none⟩) (bn - (i + (bn - j))) (k - (i + (bn - j)))]).run Tryz.prog W1 = .ok (.tuple #[]) (W1.setRow g c2) := fun ty => by
    rw [hc2]
    exact clear_books W1 g _ _ _ ty c1 hg1 (by omega) (by omega)
  have hc2s : c2.size = k * 7 := by
    have := zeros_len (bn - (i + (bn - j)))
    rw [Array.length_toList] at this
    rw [hc2]; simp [this]; omega
  have hc2t : c2.toList.take ((bn - (j - i)) * 7) = bkCells (b.take i ++ b.drop j) := by
    have h2 : (c1.toList.take ((i + (bn - j)) * 7)).length = (i + (bn - j)) * 7 := by rw [List.length_take, Array.length_toList]; omega
    rw [show bn - (j - i) = i + (bn - j) from by omega, hc2]
    show ((c1.toList.take _ ++ _) ++ _).take _ = _
    rw [List.append_assoc, List.take_left' h2, hc1t]
  have HF := hid (show (∃ cur', (W1.setRow g c2).heap[g]? = some (.cells cur' 43 (0, 0)) ∧ cur'.size = k * 7 ∧ cur'.toList.take ((bn - (j - i)) * 7) = bkCells (b.take i ++ b.drop j)) ∧ (∀ x, x ≠ g → (W1.setRow g c2).heap[x]? = w.heap[x]?) ∧ (W1.setRow g c2).heap.size = w.heap.size ∧ ∀ B, B ≤ g → Below B w (W1.setRow g c2) from by
    refine ⟨⟨c2, setRow_heap W1 g c1 _ _ _ hg1, hc2s, hc2t⟩, fun x hx => ?_, ?_, fun B hB => ?_⟩
    · rw [setRow_other _ _ _ _ hx, hW1', setRow_other _ _ _ _ hx]; rfl
    · rw [setRow_size, hW1', setRow_size]; rfl
    · rw [hW1']
      exact Below.setRow (a := w) (w := w.drew.setRow g c1) (Below.setRow (a := w) (w := w.drew) ⟨rfl, rfl, rfl, Nat.le_refl _, fun _ _ => rfl⟩ hB _) hB _)
  have hW : Hid (W1 = w.drew.setCells g (0 + i * 7) news) := hW1
  have hic : i ≤ k := by omega
  have hjc : j ≤ k := by omega
  have hne : ¬ i = j := by omega
  clear hW1 hW1' hg1 hg hget hdr hnews hlen hcs htk hbl hc1 hc1s hc1t hc2 hc2s hc2t
  go_enter Tryz.func88, Tryz.ntmps88
  go_wp2_with fail
  go_region_law (refine step_append_room rfl (.tmp 22) (.tmp 25) 23 rfl 43 i0 7 Tryz.underlying23 hi hz1 g 0 i k (by simp [Act.eval, Act.put]) A (bn - j) (k - j) news (by simp [Act.eval, Act.put]) s1.out hsrc.out s2.out (by omega) s3.out ?_; rw [← hW.out])
  go_wp2
  go_ret
  exact ⟨by rw [show bn - (j - i) = i + (bn - j) by omega]; rfl, HF.out⟩
end Go.Proofs.YtecibbokbonmcaeGreat

/- Contract of book.Cancel. -/
namespace Go.Proofs.YtecibbokbonmcaeGreat
open Go.RowKit

/-- some of the books, in the same row -/
theorem own_sub {w w' : World} {B g n k : Nat} {b b1 : BL} (h : OwnBks w B (.slice (some ⟨g, 0, none⟩) n k) b) (hs : ∀ x ∈ b1, x ∈ b) (hl : b1.length ≤ n) (hrow : ∃ cur', w'.heap[g]? = some (.cells cur' 43 (0, 0)) ∧ cur'.size = k * 7 ∧ cur'.toList.take (b1.length * 7) = bkCells b1)
    (hoth : ∀ x, x ≠ g → x < w.heap.size → w'.heap[x]? = w.heap[x]?) : OwnBks w' B (.slice (some ⟨g, 0, none⟩) b1.length k) b1 := by
  obtain ⟨cur', h1, h2, h3⟩ := hrow
  have at_ : ∀ i, i < b1.length → ∃ j, j < b.length ∧ bk b j = bk b1 i := fun i hi => mem_bk (hs _ (bk_mem hi))
  refine ⟨⟨by rw [bkCells_length], Or.inr ?_⟩, fun i hi => ?_, fun i hi => ?_, fun i hi hp g' off e => ?_, fun i hi hp g' off e => ?_⟩
  · rcases h.row.2 with ⟨hz, _⟩ | ⟨g', cap, cur, e, hB, hg, hle, hmx, _, _⟩
    · cases hz
    · simp only [Value.slice.injEq, Option.some.injEq, Addr.mk.injEq] at e
      obtain ⟨⟨rfl, _, _⟩, e2, rfl⟩ := e
      exact ⟨g, k, cur', rfl, hB, h1, by omega, hmx, h2, h3⟩
  · obtain ⟨j, hj, e⟩ := at_ i hi
    rw [← e]
    exact RunsIn.of_away (h.rqs j hj) fun hp g' off e2 => hoth g' (fun e3 => h.farP j hj hp g' off e2 (by rw [e3]; rfl)) (RunsIn.lt (h.rqs j hj) hp e2)
  · obtain ⟨j, hj, e⟩ := at_ i hi
    rw [← e]
    exact (h.bites j hj).of_away fun hp g' off e2 => hoth g' (fun e3 => h.farB j hj hp g' off e2 (by rw [e3]; rfl)) ((h.bites j hj).lt hp e2)
  · obtain ⟨j, hj, e3⟩ := at_ i hi
    rw [← e3] at hp e
    exact own_ne.2 (own_ne.1 (h.farP j hj hp g' off e))
  · obtain ⟨j, hj, e3⟩ := at_ i hi
    rw [← e3] at hp e
    exact own_ne.2 (own_ne.1 (h.farB j hj hp g' off e))
theorem own_row {w : World} {B g n k : Nat} {b : BL} (h : OwnBks w B (.slice (some ⟨g, 0, none⟩) n k) b) : ∃ cur, w.heap[g]? = some (.cells cur 43 (0, 0)) ∧ n = b.length ∧ n ≤ k ∧ k ≤ 9223372036854775807 ∧ cur.size = k * 7 ∧ cur.toList.take (n * 7) = bkCells b ∧ B ≤ g := by
  rcases h.row.2 with ⟨hz, _⟩ | ⟨g', cap, cur, e, hB, hg, hle, hmx, h1, h2⟩
  · cases hz
  · simp only [Value.slice.injEq, Option.some.injEq, Addr.mk.injEq] at e
    obtain ⟨⟨rfl, _, _⟩, e2, rfl⟩ := e
    subst e2
    exact ⟨cur, hg, rfl, hle, by simpa [maxLen] using hmx, h1, h2, hB⟩
/-- a state that was answered -/
def StAns (w w' : World) (v : Value) (c n : Int) (tn m : Nat) (l : QL) (bx : BL) : Prop := ∃ g k1 l' aa k9 b9, v = .agg #[.int .i64 c, .int .i64 n, .slice (some ⟨g, 0, none⟩) tn k1, .slice aa m k9] ∧ StIn w' (some ⟨g, 0, none⟩) tn k1 l' aa m k9 b9 ∧ bareQ l' = bareQ l ∧ bareB b9 = bareB bx ∧ Below w.heap.size w w'
/-- a state's box, and behind it one for the answer -/
theorem st_res (w : World) (a b c d : Value) {W : World} (hW : W = (w.alloc (.cells #[a, b, c, d] 25)).alloc (.cells #[.int .i64 0, .int .i64 0, .slice none 0 0, .slice none 0 0] 25)) : StBox W w.heap.size a b c d ∧ StBox W (w.heap.size + 1) (.int .i64 0) (.int .i64 0) (.slice none 0 0) (.slice none 0 0) ∧ Below w.heap.size w W ∧ W.heap.size = w.heap.size + 2 := by
  subst hW
  refine ⟨(Below.heap_alloc _ _ _ (by simp)).trans (heap_alloc_new w _), ?_, ((Below.refl _ _).alloc (Nat.le_refl _) _).alloc (by simp) _, by simp⟩
  have := StBox.new (w.alloc (.cells #[a, b, c, d] 25)) (.int .i64 0) (.int .i64 0) (.slice none 0 0) (.slice none 0 0)
  rw [World.size_alloc] at this
  exact this
theorem Delete_one (w : World) (g bn k : Nat) (cur : Array Value) (b : BL) (i : Nat) (hi : i < bn) (hbl : bn = b.length) (hle : bn ≤ k) (hm : k ≤ 9223372036854775807) (hg : w.heap[g]? = some (.cells cur 43 (0, 0))) (hcs : cur.size = k * 7) (htk : cur.toList.take (bn * 7) = bkCells b) :
    Calls Tryz.prog 88 #[.slice (some ⟨g, 0, none⟩) bn k, .int .i64 i, .int .i64 ((i : Int) + 1)] w fun e w' => e = .returned (.slice (some ⟨g, 0, none⟩) (bn - 1) k) ∧ (∃ cur', w'.heap[g]? = some (.cells cur' 43 (0, 0)) ∧ cur'.size = k * 7 ∧ cur'.toList.take ((bn - 1) * 7) = bkCells (b.take i ++ b.drop (i + 1))) ∧ (∀ x, x ≠ g → w'.heap[x]? = w.heap[x]?) ∧ w'.heap.size = w.heap.size ∧ ∀ B, B ≤ g → Below B w w' := by
  have h := Delete_any w g bn k cur b i (i + 1) (by omega) (by omega) hbl hle hm hg hcs htk
  rw [show ((i + 1 : Nat) : Int) = (i : Int) + 1 from by omega, show bn - (i + 1 - i) = bn - 1 from by omega] at h
  exact h

def CanAns (w w' : World) (e : Ending) (c n : Int) (tn m : Nat) (l : QL) (bx : BL) : Prop := ∃ v, e = .returned (.tuple #[v, .int .i64 0]) ∧ StAns w w' v c n tn m l bx
end Go.Proofs.YtecibbokbonmcaeGreat

/- slices.DeleteFunc of books that are over, in a row of the call's own. -/
namespace Go.Proofs.YtecibbokbonmcaeGreat
open Go.RowKit

def bkV (x : Bk) : Value := .agg #[.int .i64 x.id, .int .i64 x.rq.queue, .int .i64 x.rq.fr, .int .i64 x.rq.un, .int .i64 x.rq.kind, .slice x.rq.pa x.rq.pn x.rq.pc, .slice x.ba x.bn x.bc]
def DfAns (w w' : World) (e : Ending) (B : Nat) (aa : Option Addr) (bn k : Nat) (b1 : BL) : Prop := e = .returned (.slice aa b1.length k) ∧ OwnBks w' B (.slice aa b1.length k) b1 ∧ (∀ x, x < w.heap.size → (Value.slice aa bn k).ownBlock ≠ some x → w'.heap[x]? = w.heap[x]?) ∧ Below B w w'
/-- of the first j books those that stay stand in front, i of them; behind the first j all is as it was -/
structure Swept (w wr : World) (B g bn k : Nat) (b : BL) (q : Bk → Bool) (i j : Nat) : Prop where
  len : i = ((b.take j).filter fun x => !q x).length
  row : ∃ cur, wr.heap[g]? = some (.cells cur 43 (0, 0)) ∧ cur.size = k * 7 ∧ cur.toList.take (i * 7) = bkCells ((b.take j).filter fun x => !q x) ∧ (cur.toList.take (bn * 7)).drop (j * 7) = bkCells (b.drop j)
  oth : ∀ x, x ≠ g → x < w.heap.size → wr.heap[x]? = w.heap[x]?
  below : Below B w wr
theorem drop_at {b : BL} {j : Nat} (h : j < b.length) : b.drop j = bk b j :: b.drop (j + 1) := by
  rw [bk_get h]; exact List.drop_eq_getElem_cons h
theorem take_at {b : BL} {j : Nat} (h : j < b.length) : b.take (j + 1) = b.take j ++ [bk b j] := by
  rw [bk_get h, List.take_succ_eq_append_getElem h]
theorem Swept.cell {w wr : World} {B g bn k : Nat} {b : BL} {q : Bk → Bool} {i j : Nat} (h : Swept w wr B g bn k b q i j) (hj : j < b.length) {m : Nat} {u : Value} (hu : (bkCell (bk b j))[m]? = some u) : wr.cell? ⟨g, j * 7 + m, none⟩ = some u := by
  obtain ⟨cur, h1, h2, h3, h4⟩ := h.row
  rw [cell_of_row wr g _ _ _ _ h1]
  have h5 : (bkCells (b.drop j))[m]? = some u := by
    rw [drop_at hj, bkCells, List.getElem?_append_left (List.getElem?_eq_some_iff.1 hu).1]; exact hu
  rw [← h4, List.getElem?_drop, List.getElem?_take] at h5
  split at h5
  · rw [← Array.getElem?_toList]; exact h5
  · cases h5
theorem Swept.later {w wr wx : World} {B g bn k : Nat} {b : BL} {q : Bk → Bool} {i j : Nat} (h : Swept w wr B g bn k b q i j) (hB : B ≤ wr.heap.size) (hb : Below wr.heap.size wr wx) : Swept w wx B g bn k b q i j := by
  obtain ⟨cur, h1, h2, h3, h4⟩ := h.row
  exact ⟨h.len, ⟨cur, (hb.block g (Array.getElem?_eq_some_iff.1 h1).1).trans h1, h2, h3, h4⟩, fun x hx hx2 => (hb.block x (Nat.lt_of_lt_of_le hx2 h.below.size)).trans (h.oth x hx hx2), h.below.trans (hb.mono hB)⟩
/-- the j-th goes -/
theorem Swept.skip {w wr : World} {B g bn k : Nat} {b : BL} {q : Bk → Bool} {i j : Nat} (h : Swept w wr B g bn k b q i j) (hj : j < b.length) (hq : q (bk b j) = true) : Swept w wr B g bn k b q i (j + 1) := by
  obtain ⟨cur, h1, h2, h3, h4⟩ := h.row
  have e : (b.take (j + 1)).filter (fun x => !q x) = (b.take j).filter fun x => !q x := by rw [take_at hj, List.filter_append]; simp [hq]
  refine ⟨by rw [e]; exact h.len, ⟨cur, h1, h2, by rw [e]; exact h3, ?_⟩, h.oth, h.below⟩
  rw [show (j + 1) * 7 = j * 7 + 7 from by omega, ← List.drop_drop, h4, drop_at hj, bkCells]
  rfl
/-- the j-th stays, and is laid behind the others that stay -/
theorem Swept.stay {w wr : World} {B g bn k : Nat} {b : BL} {q : Bk → Bool} {i j : Nat} (h : Swept w wr B g bn k b q i j) (hbn : bn = b.length) (hk : bn ≤ k) (hj : j < b.length) (hij : i < j) (hq : q (bk b j) = false) (hB : B ≤ g) : Swept w (wr.setCells g (i * 7) (bkCell (bk b j))) B g bn k b q (i + 1) (j + 1) := by
  obtain ⟨cur, h1, h2, h3, h4⟩ := h.row
  have h7 : (bkCell (bk b j)).length = 7 := rfl
  have e : (b.take (j + 1)).filter (fun x => !q x) = ((b.take j).filter fun x => !q x) ++ [bk b j] := by rw [take_at hj, List.filter_append]; simp [hq]
  have hone : ∀ u ∈ bkCell (bk b j), u.oneCell' = true := fun u hu => bkCells_one [bk b j] u (by simpa [bkCells] using hu)
  rw [setCells_row wr g (i * 7) cur 43 _ h1 (by rw [h7]; omega) hone, h7]
  have hlt : (cur.toList.take (i * 7)).length = i * 7 := by rw [List.length_take, Array.length_toList]; omega
  refine ⟨by rw [e, List.length_append, ← h.len]; rfl, ⟨_, setRow_heap wr g cur _ _ _ h1, ?_, ?_, ?_⟩, fun x hx hx2 => (setRow_other wr g x _ hx).trans (h.oth x hx hx2), Below.setRow h.below hB _⟩
  · simp [h7]; omega
  · show ((cur.toList.take (i * 7) ++ bkCell (bk b j)) ++ _).take _ = _
    rw [List.take_left' (by rw [List.length_append, hlt, h7]; omega), e, bkCells_app, h3]
    simp [bkCells]
  · show (((cur.toList.take (i * 7) ++ bkCell (bk b j)) ++ cur.toList.drop (i * 7 + 7)).take (bn * 7)).drop ((j + 1) * 7) = _
    have hl2 : (cur.toList.take (i * 7) ++ bkCell (bk b j)).length = i * 7 + 7 := by rw [List.length_append, hlt, h7]
    have e2 : (cur.toList.take (bn * 7)).drop ((j + 1) * 7) = bkCells (b.drop (j + 1)) := by
      rw [show (j + 1) * 7 = j * 7 + 7 from by omega, ← List.drop_drop, h4, drop_at hj, bkCells]
      rfl
    rw [← e2]
    apply List.ext_getElem?
    intro m
    rw [List.getElem?_drop, List.getElem?_drop, List.getElem?_take, List.getElem?_take]
    split
    · rw [List.getElem?_append_right (by rw [hl2]; omega), hl2, List.getElem?_drop]
      congr 1
      omega
    · rfl

theorem Swept.has {w wr : World} {B g bn k : Nat} {b : BL} {q : Bk → Bool} {i j : Nat} (h : Swept w wr B g bn k b q i j) {o : Nat} (ho : o < k * 7) : ∃ u, wr.cell? ⟨g, o, none⟩ = some u := by
  obtain ⟨cur, h1, h2, _⟩ := h.row
  exact ⟨cur[o], by rw [cell_of_row wr g _ _ _ _ h1, Array.getElem?_eq_getElem (by omega)]⟩
theorem Swept.soft {w wr : World} {B g bn k : Nat} {b : BL} {q : Bk → Bool} {i j : Nat} (h : Swept w wr B g bn k b q i j) (o : Nat) : wr.frozen? ⟨g, o, none⟩ = false := by
  obtain ⟨cur, h1, _⟩ := h.row
  exact frozen_of_row wr g o _ _ h1
theorem lt_cell {w : World} {T o : Nat} {u : Value} (h : w.cell? ⟨T, o, none⟩ = some u) : T < w.heap.size := by
  rcases Nat.lt_or_ge T w.heap.size with h1 | h1
  · exact h1
  · simp [World.cell?, Array.getElem?_eq_none h1] at h

end Go.Proofs.YtecibbokbonmcaeGreat

/- Contract of book.Tick. -/
namespace Go.Proofs.YtecibbokbonmcaeGreat
open Go.RowKit

/-- who stays, at t -/
def stays (b : BL) (t : Int) : BL := b.filter fun x => !decide (overV x ≤ t)
theorem stays_bare (b : BL) (t : Int) : bareB (stays b t) = stays (bareB b) t := by
  unfold bareB stays
  rw [List.filter_map]
  congr 1
  refine List.filter_congr fun x _ => ?_
  simp only [Function.comp, overV_bare]
theorem stays_same {b b' : BL} (h : bareB b' = bareB b) (t : Int) : bareB (stays b' t) = bareB (stays b t) := by rw [stays_bare, stays_bare, h]
theorem stays_len {b b' : BL} (h : bareB b' = bareB b) (t : Int) : (stays b' t).length = (stays b t).length := by rw [← len_bareB, stays_same h, len_bareB]
theorem stays_le (b : BL) (t : Int) : (stays b t).length ≤ b.length := List.length_filter_le _ _
theorem tick_boxes (w : World) (a b c d : Value) (t : Int) {W : World} (hW : W = ((w.alloc (.cells #[a, b, c, d] 25)).alloc (.cells #[.int .i64 t] 3)).alloc (.cells #[.int .i64 0, .int .i64 0, .slice none 0 0, .slice none 0 0] 25)) : StBox W w.heap.size a b c d ∧ W.cell? ⟨w.heap.size + 1, 0, none⟩ = some (.int .i64 t) ∧ StBox W (w.heap.size + 2) (.int .i64 0) (.int .i64 0) (.slice none 0 0) (.slice none 0 0) ∧ Below w.heap.size w W ∧ W.heap.size = w.heap.size + 3 := by
  subst hW
  obtain ⟨V, hV⟩ : ∃ V, V = w.alloc (.cells #[a, b, c, d] 25) := ⟨_, rfl⟩
  have h1 : StBox V w.heap.size a b c d := by rw [hV]; exact StBox.new w a b c d
  have hb1 : Below w.heap.size w V := by rw [hV]; exact (Below.refl _ _).alloc (Nat.le_refl _) _
  have hs1 : V.heap.size = w.heap.size + 1 := by rw [hV]; simp
  rw [← hV]
  obtain ⟨U, hU⟩ : ∃ U, U = V.alloc (.cells #[.int .i64 t] 3) := ⟨_, rfl⟩
  have h2 : U.heap[w.heap.size + 1]? = some (.cells #[.int .i64 t] 3 (0, 0)) := by rw [hU, ← hs1]; exact heap_alloc_new V _
  have hb2 : Below V.heap.size V U := by rw [hU]; exact (Below.refl _ _).alloc (Nat.le_refl _) _
  have hs2 : U.heap.size = w.heap.size + 2 := by rw [hU]; simp; omega
  rw [← hU]
  have hb3 : Below U.heap.size U (U.alloc (.cells #[.int .i64 0, .int .i64 0, .slice none 0 0, .slice none 0 0] 25)) := (Below.refl _ _).alloc (Nat.le_refl _) _
  refine ⟨(h1.later hb2).later hb3, cell_later hb3 (by rw [cell_of_row U _ 0 _ _ _ h2]; rfl), ?_, below_from (below_from hb1 hb2) hb3, by simp; omega⟩
  have := StBox.new U (.int .i64 0) (.int .i64 0) (.slice none 0 0) (.slice none 0 0)
  rw [hs2] at this
  exact this
def tickE (c n : Int) (l : QL) (b : BL) (t : Int) : Int := if planE c n l b = 0 then (if t < 0 ∨ 48 < t then 3 else if t < c then 9 else 0) else planE c n l b
theorem tick_ok {c n : Int} {l : QL} {b : BL} {t : Int} (h : tickE c n l b t = 0) : planE c n l b = 0 ∧ 0 ≤ t ∧ t ≤ 48 ∧ c ≤ t := by
  unfold tickE at h
  split at h
  · rename_i h1
    split at h
    · cases h
    · split at h
      · cases h
      · exact ⟨h1, by omega, by omega, by omega⟩
  · contradiction

def TickAns (w w' : World) (e : Ending) (t n : Int) (tn bn : Nat) (l : QL) (bx : BL) : Prop := ∃ v, e = .returned (.tuple #[v, .int .i64 ((bn : Int) - bx.length), .int .i64 0]) ∧ StAns w w' v t n tn bx.length l bx
end Go.Proofs.YtecibbokbonmcaeGreat

/- book.Submit, whatever comes in; who is refused as full has no place. -/
namespace Go.Proofs.YtecibbokbonmcaeGreat
open Go.RowKit

def SubAny (w w' : World) (e : Ending) (E : Int) : Prop := ∃ (i1 i2 : Int) (s1 : Option Addr) (n1 k1 : Nat) (s2 : Option Addr) (n2 k2 : Nat) (x : Int), e = .returned (.tuple #[.agg #[.int .i64 i1, .int .i64 i2, .slice s1 n1 k1, .slice s2 n2 k2], .int .i64 x, .int .i64 E]) ∧ Below w.heap.size w w'
theorem chkT_ne8 (l : QL) : chkT l ≠ 8 := by unfold chkT; (repeat' split) <;> decide
theorem chkR_ne8 (m : Bool) (r : Rq) : chkR m r ≠ 8 := by unfold chkR; (repeat' split) <;> decide
theorem chkQR_ne8 (l : QL) (r : Rq) : chkQR l r ≠ 8 := by
  unfold chkQR
  split
  · exact chkR_ne8 _ _
  · exact chkT_ne8 _
theorem ers_ne8 (k : Nat) : ers k ≠ 8 := by
  unfold ers
  rcases k with _ | _ | _ | _ | _ | k <;> simp
theorem firstE_ne8 (l : QL) (b : BL) : ∀ m k, firstE l b k m ≠ 8
  | 0, _ => by simp [firstE]
  | m + 1, k => by
    rw [firstE]
    split
    · exact firstE_ne8 l b m _
    · exact ers_ne8 k
theorem chkL_ne8 (l : QL) (b : BL) : chkL l b ≠ 8 := by
  unfold chkL
  split
  · split
    · exact firstE_ne8 _ _ _ _
    · decide
  · exact chkT_ne8 _
theorem planE_ne8 (c n : Int) (l : QL) (b : BL) : planE c n l b ≠ 8 := by
  unfold planE
  split
  · (repeat' split) <;> decide
  · exact chkL_ne8 _ _
theorem full_at {c n : Int} {l : QL} {b : BL} {r : Rq} (h : subE c n l b r = 8) : seekE c n l b r = 0 ∧ (placeR l b r).2 = false := by
  unfold subE at h
  split at h
  · rename_i h1
    split at h
    · cases h
    · split at h
      · cases h
      · rename_i h3
        exact ⟨h1, by simpa using h3⟩
  · exfalso
    unfold seekE at h
    split at h
    · split at h
      · split at h <;> cases h
      · exact chkQR_ne8 _ _ h
    · exact planE_ne8 _ _ _ _ h
/-- F2, H1: who is refused as full has no place -/
theorem full_no {c n : Int} {l : QL} {b : BL} {r : Rq} {bs : RunL} (h : subE c n l b r = 8) (hk : r.kind ≠ 1) (hm : meets r bs = true) : Clean l b ∧ (0 ≤ r.queue ∧ r.queue < l.length) ∧ heldB (roomR l b r.queue) r bs = false := by
  obtain ⟨h1, h2⟩ := full_at h
  obtain ⟨p1, p2, p3⟩ := seek_ok h1
  have hC := (sound_of p1).clean
  have hq := (no_error_at (x := ⟨n, r, none, 0, 0, bs⟩) hC.tree (by unfold chkB; rw [if_pos p2, if_pos hm])).2
  refine ⟨hC, hq, ?_⟩
  by_cases hh : heldB (roomR l b r.queue) r bs = true
  · have e0 : placeErr (roomR l b r.queue) r = 0 := by
      unfold placeErr
      rw [if_pos (fine_iff.2 (room_fine hC hq.2))]
      exact (meets_split.1 hm).1
    obtain ⟨x, hx, _⟩ := find_sure e0 hk hm hh
    have er : roomE l b r.queue = 0 := by
      unfold roomE
      rw [if_pos (chkL_clean hC), if_pos hq]
    unfold placeR at h2
    rw [if_pos er, if_pos e0, hx] at h2
    cases h2
  · simpa using hh
end Go.Proofs.YtecibbokbonmcaeGreat

/- Plain facts for booking: what stays over two ticks; a right state at a later clock; what was submitted stands last. -/
namespace Go.Proofs.YtecibbokbonmcaeGreat

theorem stays_two (b : BL) {t u : Int} (h : t ≤ u) : stays (stays b t) u = stays b u := by
  unfold stays
  rw [List.filter_filter]
  apply List.filter_congr
  intro x _
  by_cases hx : overV x ≤ u
  · simp [hx]
  · have : ¬ overV x ≤ t := by omega
    simp [hx, this]
theorem id_of {c n : Int} {l : QL} {b : BL} (h : Sound c n l b) {j : Nat} (hj : j < b.length) : bookAt b (bk b j).id = some j := by
  refine findFrom_at (fun s hs => ?_) hj (by simp)
  have := ids_rise h hj hs
  simp
  omega
theorem bk_is {b : BL} {i : Nat} (h : i < b.length) : bk b i = b[i] := by simp [bk, List.getD, h]
theorem sum_less (f : Bk → Int) : ∀ {a b : BL}, a.Sublist b → (∀ x ∈ b, 0 ≤ f x) → (a.map f).sum ≤ (b.map f).sum := by
  intro a b h
  induction h with
  | slnil => intro _; exact Int.le_refl _
  | cons x _ ih =>
    intro h0
    have h1 := ih fun y hy => h0 y (List.mem_cons_of_mem _ hy)
    have h2 := h0 x (List.mem_cons_self ..)
    simp only [List.map_cons, List.sum_cons]
    omega
  | cons_cons x _ ih =>
    intro h0
    have h1 := ih fun y hy => h0 y (List.mem_cons_of_mem _ hy)
    simp only [List.map_cons, List.sum_cons]
    omega
/-- some of a right state's books, at a later clock -/
theorem sub_sound {c n : Int} {l : QL} {b b1 : BL} (h : Sound c n l b) (hs : b1.Sublist b) {t : Int} (hct : c ≤ t) (ht : t ≤ 48) (ha : ∀ x ∈ b1, t < overV x) : Sound t n l b1 := by
  have hlen := hs.length_le
  have hcl : Clean l b1 := clean_sub h.clean (by have := h.clean.few; omega) (fun x hx => hs.subset hx)
  have hP : b.Pairwise (fun x y => x.id < y.id) := by
    rw [List.pairwise_iff_getElem]
    intro i j hi hj hij
    have := ids_rise h hj hij
    rw [bk_is hi, bk_is hj] at this
    exact this
  have hP1 := hP.sublist hs
  rw [List.pairwise_iff_getElem] at hP1
  have hin : ∀ x ∈ b, 0 ≤ x.id ∧ x.id < n := by
    intro x hx
    obtain ⟨i, hi, rfl⟩ := List.getElem_of_mem hx
    have h1 := h.rise i hi
    have h2 := ids_low h hi
    rw [bk_is hi] at h1 h2
    exact ⟨h2.1, h1.2⟩
  refine ⟨hcl, by have := h.c0; omega, ht, h.n0, h.n1, fun i hi => ?_, fun i hi => ha _ (bk_mem hi), fun q hq u hu1 hu2 => ?_⟩
  · have h1 := hin _ (hs.subset (bk_mem hi))
    refine ⟨?_, h1.2⟩
    unfold leastId
    by_cases e : i = 0
    · rw [if_pos e]; exact h1.1
    · rw [if_neg e]
      have h2 := hP1 (i - 1) i (by omega) hi (by omega)
      rw [bk_is hi, bk_is (show i - 1 < b1.length by omega)]
      omega
  · have h1 := h.fits q hq u (by omega) hu2
    rw [use_all] at h1 ⊢
    have h2 := sum_less (oneV l q u) hs fun x hx => (oneV_bd (l := l) (clean_at h.clean hx).1 q u).1
    omega
/-- H2: what comes of a Tick is right -/
theorem tick_sound {c n : Int} {l : QL} {b : BL} {t : Int} (h : tickE c n l b t = 0) : Sound t n l (stays b t) := by
  obtain ⟨hp, h0, h1, hc⟩ := tick_ok h
  refine sub_sound (sound_of hp) List.filter_sublist hc h1 fun x hx => ?_
  have := (List.mem_filter.1 hx).2
  simp at this
  exact this
theorem tick_more {c n : Int} {l : QL} {b : BL} {t u : Int} (h : tickE c n l b t = 0) (htu : t ≤ u) (hu : u ≤ 48) : tickE c n l b u = 0 := by
  obtain ⟨hp, h0, h1, hc⟩ := tick_ok h
  unfold tickE
  rw [if_pos hp, if_neg (by omega), if_neg (by omega)]
theorem tickE_same {c n : Int} {l l' : QL} {b b' : BL} (hl : bareQ l' = bareQ l) (hb : bareB b' = bareB b) (t : Int) : tickE c n l' b' t = tickE c n l b t := by
  unfold tickE
  rw [planE_same hl hb]

theorem bare_at {b b' : BL} (h : bareB b' = bareB b) (i : Nat) : (bk b' i).bare = (bk b i).bare := by rw [← bk_bare, h, bk_bare]
theorem bare_len {b b' : BL} (h : bareB b' = bareB b) : b'.length = b.length := by rw [← len_bareB, h, len_bareB]
theorem last_of {b b9 : BL} {X : Bk} (h : bareB b9 = bareB (b ++ [X])) : (bk b9 b.length).bare = X.bare := by rw [bare_at h, bk_end]
theorem first_of {b b9 : BL} {X : Bk} (h : bareB b9 = bareB (b ++ [X])) : bareB (b9.take b.length) = bareB b := by
  unfold bareB at h ⊢
  rw [List.map_take, h, List.map_append, List.take_left' (by simp)]
theorem gone_of {b b9 : BL} {X : Bk} (h : bareB b9 = bareB (b ++ [X])) : bareB (b9.take b.length ++ b9.drop (b.length + 1)) = bareB b := by
  have hl : b9.length = b.length + 1 := by rw [bare_len h]; simp
  rw [List.drop_of_length_le (by omega), List.append_nil]
  exact first_of h
/-- H1: what is submitted is right -/
theorem booked_sound {c n : Int} {l : QL} {b : BL} {r : Rq} (h : subE c n l b r = 0) : Sound c (n + 1) l (b ++ [⟨n, r, none, 0, 0, (placeR l b r).1⟩]) := by
  obtain ⟨h1, h12, hn, hp⟩ := sub_ok h
  obtain ⟨p1, p2, p3⟩ := seek_ok h1
  unfold placeR at hp ⊢
  by_cases er : roomE l b r.queue = 0
  · rw [if_pos er] at hp ⊢
    by_cases e0 : placeErr (roomR l b r.queue) r = 0
    · rw [if_pos e0] at hp ⊢
      obtain ⟨g1, g2⟩ := find_good e0 (Prod.ext rfl hp)
      exact submit_sound (sound_of p1) rfl p2 p3 h12 hn g1 g2
    · rw [if_neg e0] at hp; cases hp
  · rw [if_neg er] at hp; cases hp
theorem booked_facts {c n : Int} {l l' : QL} {b b9 : BL} {r : Rq} (h : subE c n l b r = 0) (hl : bareQ l' = bareQ l) (hb : bareB b9 = bareB (b ++ [⟨n, r, none, 0, 0, (placeR l b r).1⟩])) :
    planE c (n + 1) l' b9 = 0 ∧ bookAt b9 n = some b.length ∧ (bk b9 b.length).id = n ∧ (bk b9 b.length).rq.bare = r.bare ∧ bareB (b9.take b.length) = bareB b ∧ bareB (b9.take b.length ++ b9.drop (b.length + 1)) = bareB b := by
  have h1 : planE c (n + 1) l' b9 = 0 := (planE_same hl hb).trans (planE_ok (booked_sound h))
  have e := last_of hb
  have hi : (bk b9 b.length).id = n := congrArg Bk.id e
  have hlen : b9.length = b.length + 1 := by rw [bare_len hb]; simp
  refine ⟨h1, ?_, hi, congrArg Bk.rq e, first_of hb, gone_of hb⟩
  have := id_of (sound_of h1) (j := b.length) (by omega)
  rwa [hi] at this
end Go.Proofs.YtecibbokbonmcaeGreat

/- ask.Busy, ask.Left, ask.Soonest (and runs.Value): what they answer, whatever comes in. -/
namespace Go.Proofs.YtecibbokbonmcaeGreat
open Go.RowKit

theorem Value_any (w : World) (a : Option Addr) (n cap : Nat) (l : RunL) (t : Int) (h : RunsIn w a n cap l) :
   Calls Tryz.prog 25 #[.slice a n cap, .int .i64 t] w fun e w' => e = .returned (.tuple #[.int .i64 (valueR l t).1, .int .i64 (valueR l t).2]) ∧ Below w.heap.size w w' := by
  cases hf : fine l with
  | false =>
    have hv : valueR l t = (0, 1) := by simp [valueR, hf]
    have hk : chk l = 1 := by simp [chk, hf]
    rw [hv]
    go_enter Tryz.func25, Tryz.ntmps25
    go_wp2_with (go_at_call 67; refine (Check_any _ a n cap l h).mono ?_; rintro e w' ⟨rfl, hb⟩; rw [hk])
    go_ret2
    exact ⟨rfl, hb⟩
  | true =>
    have hk : chk l = 0 := by simp [chk, hf]
    cases ht : wth t 0 47 with
    | false =>
      have hv : valueR l t = (0, 3) := by simp [valueR, hf, ht]
      rw [hv]
      simp [wth] at ht
      have hd : t < 0 ∨ 0 ≤ t ∧ 48 ≤ t := by omega
      clear ht
      rcases hd with hd | ⟨hd, hd'⟩
      all_goals
        go_enter Tryz.func25, Tryz.ntmps25
        go_wp2_with (go_at_call 67; refine (Check_any _ a n cap l h).mono ?_; rintro e w' ⟨rfl, hb⟩; rw [hk])
        go_ret2
        exact ⟨rfl, hb⟩
    | true =>
      have hF := fine_iff.1 hf
      have hv : valueR l t = (valAt l t, 0) := by simp [valueR, hf, ht]
      rw [hv]
      simp [wth] at ht
      obtain ⟨ht0, ht1⟩ := ht
      have hnl := h.len
      have hp : 0 < n := by rw [hnl]; exact hF.1
      obtain ⟨b, off, rfl, hc⟩ := h.cells hp
      have HN : Hid (n = l.length) := hnl
      clear hnl
      have hle := h.le
      have hbd := h.bound
      have hcb := h.capb
      go_enter Tryz.func25, Tryz.ntmps25
      go_wp2_with (go_at_call 67; refine (Check_any _ _ n cap l h).mono ?_; rintro e w' ⟨rfl, hb⟩; rw [hk])
      refine (reach_any _ b off n cap l 0 t (h.later hb) hp).mono ?_
      rintro e w2 ⟨j, rfl, h1, h2, h3, h4, rfl⟩
      have cj := cell_later hb (hc j h2).2
      have hj' : (j : Int) < n := by omega
      have hr : Hid (Reached l t j) := ⟨by have := HN.out; omega, by
        by_cases e : 0 < j
        · exact h3 e
        · obtain rfl : j = 0 := by omega
          rw [hF.at0]; omega, fun h => h4 (by have := HN.out; omega)⟩
      clear h3 h4 hc
      go_wp2
      go_ret2
      rw [hr.out.val hF.rises]
      exact ⟨rfl, hb⟩

def busyR (c n : Int) (l : QL) (b : BL) (q t : Int) : Int × Int := if planE c n l b = 0 then (if 0 ≤ q ∧ q < l.length then valueR (takenTo l b b.length q.toNat) t else (0, 6)) else (0, planE c n l b)
def leftR (c n : Int) (l : QL) (b : BL) (q t : Int) : Int × Int := if planE c n l b = 0 then (if roomE l b q = 0 then valueR (roomR l b q) t else (0, roomE l b q)) else (0, planE c n l b)

set_option maxRecDepth 100000 in
set_option maxHeartbeats 2000000 in
theorem Busy_any (w : World) (c n : Int) (ta : Option Addr) (tn tc : Nat) (l : QL) (ba : Option Addr) (bn bc : Nat) (b : BL) (h : StIn w ta tn tc l ba bn bc b) (q t : Int) :
    Calls Tryz.prog 26 #[.agg #[.int .i64 c, .int .i64 n, .slice ta tn tc, .slice ba bn bc], .int .i64 q, .int .i64 t] w fun e w' => e = .returned (.tuple #[.int .i64 (busyR c n l b q t).1, .int .i64 (busyR c n l b q t).2]) ∧ Below w.heap.size w w' := by
  obtain ⟨S, hS⟩ : ∃ S, w.heap.size = S := ⟨_, rfl⟩
  obtain ⟨W1, hW1⟩ : ∃ W1, W1 = w.alloc (.cells #[.int .i64 c, .int .i64 n, .slice ta tn tc, .slice ba bn bc] 25) := ⟨_, rfl⟩
  have hb0 : Below w.heap.size w W1 := by rw [hW1]; exact (Below.refl _ _).alloc (Nat.le_refl _) _
  have x1 : StBox W1 S (.int .i64 c) (.int .i64 n) (.slice ta tn tc) (.slice ba bn bc) := by rw [hW1, ← hS]; exact StBox.new w _ _ _ _
  have K1 := CheckS_any W1 c n ta tn tc l ba bn bc b (h.later hb0)
  have HST := hid h
  have HX1 := hid x1
  have HB0 := hid hb0
  have HW1 := hid hW1
  have htl := h.1.len
  obtain ⟨c0, c1, c2, c3⟩ := x1.cells
  clear hb0 hW1 h x1
  by_cases he : planE c n l b = 0
  · have HSO := hid (sound_of he)
    rw [he] at K1
    have HK1 := hid K1
    have hmm : busyR c n l b q t = if 0 ≤ q ∧ q < l.length then valueR (takenTo l b b.length q.toNat) t else (0, 6) := if_pos he
    rw [hmm]
    have t5 : tn ≤ 5 := by have := (right_of HSO.out.clean.tree).five; omega
    clear K1 he hmm
    by_cases hq0 : q < 0
    · rw [if_neg (by omega)]
      clear htl
      go_enter Tryz.func26, Tryz.ntmps26
      go_wp2_with fail
      rw [← HW1.out]
      refine HK1.out.mono ?_
      rintro e w1 ⟨rfl, hb⟩
      have HB1 := hid (below_from HB0.out hb)
      clear hb c0 c1 c2 c3
      go_wp2
      go_ret2
      exact ⟨rfl, HB1.out⟩
    · by_cases hq1 : (tn : Int) ≤ q
      · rw [if_neg (by omega)]
        clear htl
        go_enter Tryz.func26, Tryz.ntmps26
        go_wp2_with fail
        rw [← HW1.out]
        refine HK1.out.mono ?_
        rintro e w1 ⟨rfl, hb⟩
        have HB1 := hid (below_from HB0.out hb)
        have HY1 := hid (HX1.out.later hb)
        clear hb c0 c1 c2 c3
        obtain ⟨c0, c1, c2, c3⟩ := HY1.out.cells
        go_wp2
        go_ret2
        exact ⟨rfl, HB1.out⟩
      · rw [if_pos (by omega)]
        obtain ⟨k, rfl⟩ : ∃ k : Nat, q = k := ⟨q.toNat, by omega⟩
        have hk : k < tn := by omega
        have hk' : (k : Int) < tn := by omega
        rw [Int.toNat_natCast]
        have KO := hid fun X (hX : Below w.heap.size w X) => Of_ok X ta tn tc l (HST.out.1.later hX) ba bn bc b (HST.out.2.later hX) (chkL_clean HSO.out.clean)
        obtain ⟨T, hT⟩ : ∃ T, takenTo l b b.length = T := ⟨_, rfl⟩
        rw [hT] at KO ⊢
        obtain ⟨x, hx⟩ : ∃ x, valueR (T k) t = x := ⟨_, rfl⟩
        have HXV := hid hx
        rw [hx]
        clear htl hq0 hT hx
        go_enter Tryz.func26, Tryz.ntmps26
        go_wp2_with fail
        rw [← HW1.out]
        refine HK1.out.mono ?_
        rintro e w1 ⟨rfl, hb⟩
        have HB1 := hid (below_from HB0.out hb)
        have HY1 := hid (HX1.out.later hb)
        clear hb c0 c1 c2 c3
        obtain ⟨c0, c1, c2, c3⟩ := HY1.out.cells
        go_wp2_with fail
        refine (KO.out w1 HB1.out).mono ?_
        rintro e w2 ⟨G, rfl, _, hq, hb⟩
        have HB2 := hid (below_from HB1.out hb)
        obtain ⟨fa, fm, fc, hcell, hrr⟩ := hq k hk
        have KV := Value_any w2 fa fm fc (T k) t hrr
        rw [HXV.out] at KV
        have HKV := hid KV
        clear hb hq hrr KV c0 c1 c2 c3
        go_wp2_with fail
        refine HKV.out.mono ?_
        rintro e w3 ⟨rfl, hb⟩
        have HB3 := hid (below_from HB2.out hb)
        clear hb
        go_wp2
        go_ret2
        exact ⟨rfl, HB3.out⟩
  · obtain ⟨er, her⟩ : ∃ er, planE c n l b = er := ⟨_, rfl⟩
    have ev : busyR c n l b q t = (0, er) := by unfold busyR; rw [if_neg he, her]
    rw [ev]
    rw [her] at K1 he
    have hne : (er != 0) = true := by simp [he]
    have HK1 := hid K1
    clear K1 he her ev htl
    go_enter Tryz.func26, Tryz.ntmps26
    go_wp2_with fail
    rw [← HW1.out]
    refine HK1.out.mono ?_
    rintro e w1 ⟨rfl, hb⟩
    have HB1 := hid (below_from HB0.out hb)
    clear hb c0 c1 c2 c3
    go_wp2
    go_ret2
    exact ⟨rfl, HB1.out⟩

set_option maxRecDepth 100000 in
set_option maxHeartbeats 2000000 in
theorem Left_any (w : World) (c n : Int) (ta : Option Addr) (tn tc : Nat) (l : QL) (ba : Option Addr) (bn bc : Nat) (b : BL) (h : StIn w ta tn tc l ba bn bc b) (q t : Int) :
    Calls Tryz.prog 27 #[.agg #[.int .i64 c, .int .i64 n, .slice ta tn tc, .slice ba bn bc], .int .i64 q, .int .i64 t] w fun e w' => e = .returned (.tuple #[.int .i64 (leftR c n l b q t).1, .int .i64 (leftR c n l b q t).2]) ∧ Below w.heap.size w w' := by
  obtain ⟨S, hS⟩ : ∃ S, w.heap.size = S := ⟨_, rfl⟩
  obtain ⟨W1, hW1⟩ : ∃ W1, W1 = w.alloc (.cells #[.int .i64 c, .int .i64 n, .slice ta tn tc, .slice ba bn bc] 25) := ⟨_, rfl⟩
  have hb0 : Below w.heap.size w W1 := by rw [hW1]; exact (Below.refl _ _).alloc (Nat.le_refl _) _
  have x1 : StBox W1 S (.int .i64 c) (.int .i64 n) (.slice ta tn tc) (.slice ba bn bc) := by rw [hW1, ← hS]; exact StBox.new w _ _ _ _
  have K1 := CheckS_any W1 c n ta tn tc l ba bn bc b (h.later hb0)
  have HST := hid h
  have HX1 := hid x1
  have HB0 := hid hb0
  have HW1 := hid hW1
  have htl := h.1.len
  obtain ⟨c0, c1, c2, c3⟩ := x1.cells
  clear hb0 hW1 h x1
  by_cases he : planE c n l b = 0
  · rw [he] at K1
    have HK1 := hid K1
    have hmm : leftR c n l b q t = if roomE l b q = 0 then valueR (roomR l b q) t else (0, roomE l b q) := if_pos he
    rw [hmm]
    have KO := hid fun X (hX : Below w.heap.size w X) => RoomOf_any X ta tn tc l (HST.out.1.later hX) ba bn bc b (HST.out.2.later hX) q
    clear K1 he hmm htl
    by_cases hr : roomE l b q = 0
    · rw [if_pos hr]
      rw [hr] at KO
      rw [if_pos rfl] at KO
      obtain ⟨T, hT⟩ : ∃ T, roomR l b q = T := ⟨_, rfl⟩
      rw [hT] at KO ⊢
      obtain ⟨x, hx⟩ : ∃ x, valueR T t = x := ⟨_, rfl⟩
      have HXV := hid hx
      rw [hx]
      clear hr hT hx
      go_enter Tryz.func27, Tryz.ntmps27
      go_wp2_with fail
      rw [← HW1.out]
      refine HK1.out.mono ?_
      rintro e w1 ⟨rfl, hb⟩
      have HB1 := hid (below_from HB0.out hb)
      have HY1 := hid (HX1.out.later hb)
      clear hb c0 c1 c2 c3
      obtain ⟨c0, c1, c2, c3⟩ := HY1.out.cells
      go_wp2_with fail
      refine (KO.out w1 HB1.out).mono ?_
      rintro e w2 ⟨fa, fm, fc, rfl, hrr, hb⟩
      have HB2 := hid (below_from HB1.out hb)
      have KV := Value_any w2 fa fm fc T t hrr
      rw [HXV.out] at KV
      have HKV := hid KV
      clear hb hrr KV c0 c1 c2 c3
      go_wp2_with fail
      refine HKV.out.mono ?_
      rintro e w3 ⟨rfl, hb⟩
      have HB3 := hid (below_from HB2.out hb)
      clear hb
      go_wp2
      go_ret2
      exact ⟨rfl, HB3.out⟩
    · rw [if_neg hr]
      rw [if_neg hr] at KO
      obtain ⟨E, hE⟩ : ∃ E, roomE l b q = E := ⟨_, rfl⟩
      rw [hE] at KO hr ⊢
      have hne : (E != 0) = true := by simp [hr]
      clear hr hE
      go_enter Tryz.func27, Tryz.ntmps27
      go_wp2_with fail
      rw [← HW1.out]
      refine HK1.out.mono ?_
      rintro e w1 ⟨rfl, hb⟩
      have HB1 := hid (below_from HB0.out hb)
      have HY1 := hid (HX1.out.later hb)
      clear hb c0 c1 c2 c3
      obtain ⟨c0, c1, c2, c3⟩ := HY1.out.cells
      go_wp2_with fail
      refine (KO.out w1 HB1.out).mono ?_
      rintro e w2 ⟨fa, fm, fc, rfl, hrr, hb⟩
      have HB2 := hid (below_from HB1.out hb)
      clear hb hrr c0 c1 c2 c3
      go_wp2
      go_ret2
      exact ⟨rfl, HB2.out⟩
  · obtain ⟨er, her⟩ : ∃ er, planE c n l b = er := ⟨_, rfl⟩
    have ev : leftR c n l b q t = (0, er) := by unfold leftR; rw [if_neg he, her]
    rw [ev]
    rw [her] at K1 he
    have hne : (er != 0) = true := by simp [he]
    have HK1 := hid K1
    clear K1 he her ev htl
    go_enter Tryz.func27, Tryz.ntmps27
    go_wp2_with fail
    rw [← HW1.out]
    refine HK1.out.mono ?_
    rintro e w1 ⟨rfl, hb⟩
    have HB1 := hid (below_from HB0.out hb)
    clear hb c0 c1 c2 c3
    go_wp2
    go_ret2
    exact ⟨rfl, HB1.out⟩

/-- the soonest of the first k bites, and of the first one -/
def lowAt (x : RunL) : Nat → Int
  | 0 => rN x 0
  | k + 1 => if rN x k < lowAt x k then rN x k else lowAt x k
theorem place_some {c n : Int} {l : QL} {b : BL} {r : Rq} (_h : seekE c n l b r = 0) (hp : (placeR l b r).2 = true) : 0 < (placeR l b r).1.length := by
  unfold placeR at hp ⊢
  by_cases er : roomE l b r.queue = 0
  · rw [if_pos er] at hp ⊢
    by_cases e0 : placeErr (roomR l b r.queue) r = 0
    · rw [if_pos e0] at hp ⊢
      obtain ⟨g1, _⟩ := find_good e0 (Prod.ext rfl hp)
      have h2 := (meets_split.1 g1).2.1
      have h3 := (chkR_zero.1 (meets_split.1 g1).1).2.1
      simp [wth] at h3
      have h4 : 0 < wantedN r := by unfold wantedN; split <;> omega
      have h5 : (0 : Int) < (findA r (roomR l b r.queue)).1.length := by rw [h2]; exact h4
      exact Int.ofNat_lt.1 h5
    · rw [if_neg e0] at hp; cases hp
  · rw [if_neg er] at hp; cases hp
set_option maxRecDepth 100000 in
set_option maxHeartbeats 2000000 in
theorem Soonest_wrong (w : World) (c n : Int) (ta : Option Addr) (tn tc : Nat) (l : QL) (ba : Option Addr) (bn bc : Nat) (b : BL) (h : StIn w ta tn tc l ba bn bc b) (r : Rq) (hr : RqIn w r) (hE : seekE c n l b r ≠ 0) :
    Calls Tryz.prog 28 #[.agg #[.int .i64 c, .int .i64 n, .slice ta tn tc, .slice ba bn bc], .agg #[.int .i64 r.queue, .int .i64 r.fr, .int .i64 r.un, .int .i64 r.kind, .slice r.pa r.pn r.pc]] w fun e w' => e = .returned (.tuple #[.int .i64 0, .bool false, .int .i64 (seekE c n l b r)]) ∧ Below w.heap.size w w' := by
  obtain ⟨S, hS⟩ : ∃ S, w.heap.size = S := ⟨_, rfl⟩
  obtain ⟨W1, hW1⟩ : ∃ W1, W1 = (w.alloc (.cells #[.int .i64 c, .int .i64 n, .slice ta tn tc, .slice ba bn bc] 25)).alloc (.cells #[.int .i64 r.queue, .int .i64 r.fr, .int .i64 r.un, .int .i64 r.kind, .slice r.pa r.pn r.pc] 40) := ⟨_, rfl⟩
  obtain ⟨x1, x2, hb0, _⟩ := two_boxes w _ _ _ _ r hW1
  rw [hS] at x1 x2
  have K1 := seekCheck_any W1 c n ta tn tc l ba bn bc b (h.later hb0) r (RqIn.later hr hb0)
  have HB0 := hid hb0
  have HW1 := hid hW1
  obtain ⟨c0, c1, c2, c3⟩ := x1.cells
  obtain ⟨d0, d1, d2, d3, d4⟩ := x2.cells
  clear hW1 x1 x2 hb0 h hr
  obtain ⟨E, hEE⟩ : ∃ E, seekE c n l b r = E := ⟨_, rfl⟩
  rw [hEE] at K1 hE ⊢
  have hne : (E != 0) = true := by simp [hE]
  have HK1 := hid K1
  clear K1 hEE hE
  go_enter Tryz.func28, Tryz.ntmps28
  go_wp2_with fail
  rw [← HW1.out]
  refine HK1.out.mono ?_
  rintro e w1 ⟨rfl, hb⟩
  have HB1 := hid (below_from HB0.out hb)
  clear hb c0 c1 c2 c3 d0 d1 d2 d3 d4
  go_wp2
  go_ret3
  exact ⟨rfl, HB1.out⟩
set_option maxRecDepth 100000 in
set_option maxHeartbeats 2000000 in
theorem Soonest_ok (w : World) (c n : Int) (ta : Option Addr) (tn tc : Nat) (l : QL) (ba : Option Addr) (bn bc : Nat) (b : BL) (h : StIn w ta tn tc l ba bn bc b) (r : Rq) (hr : RqIn w r) (hE : seekE c n l b r = 0) :
    Calls Tryz.prog 28 #[.agg #[.int .i64 c, .int .i64 n, .slice ta tn tc, .slice ba bn bc], .agg #[.int .i64 r.queue, .int .i64 r.fr, .int .i64 r.un, .int .i64 r.kind, .slice r.pa r.pn r.pc]] w fun e w' => e = .returned (.tuple #[.int .i64 (if (placeR l b r).2 = true then lowAt (placeR l b r).1 (placeR l b r).1.length else 0), .bool (placeR l b r).2, .int .i64 0]) ∧ Below w.heap.size w w' := by
  obtain ⟨S, hS⟩ : ∃ S, w.heap.size = S := ⟨_, rfl⟩
  obtain ⟨W1, hW1⟩ : ∃ W1, W1 = (w.alloc (.cells #[.int .i64 c, .int .i64 n, .slice ta tn tc, .slice ba bn bc] 25)).alloc (.cells #[.int .i64 r.queue, .int .i64 r.fr, .int .i64 r.un, .int .i64 r.kind, .slice r.pa r.pn r.pc] 40) := ⟨_, rfl⟩
  obtain ⟨x1, x2, hb0, _⟩ := two_boxes w _ _ _ _ r hW1
  rw [hS] at x1 x2
  have K1 := seekCheck_any W1 c n ta tn tc l ba bn bc b (h.later hb0) r (RqIn.later hr hb0)
  rw [hE] at K1
  have HK1 := hid K1
  have KP := hid fun X (hX : Below w.heap.size w X) => seekPlace_any X c n ta tn tc l ba bn bc b (h.later hX) r (RqIn.later hr hX)
  have HPS := hid (place_some hE)
  have HB0 := hid hb0
  have HW1 := hid hW1
  have HX1 := hid x1
  have HX2 := hid x2
  obtain ⟨c0, c1, c2, c3⟩ := x1.cells
  obtain ⟨d0, d1, d2, d3, d4⟩ := x2.cells
  clear hW1 x1 x2 hb0 h hr K1 hE
  obtain ⟨p, hp⟩ : ∃ p, placeR l b r = p := ⟨_, rfl⟩
  rw [hp] at KP HPS ⊢
  obtain ⟨x, f⟩ := p
  clear hp
  go_enter Tryz.func28, Tryz.ntmps28
  go_wp2_with fail
  rw [← HW1.out]
  refine HK1.out.mono ?_
  rintro e w1 ⟨rfl, hb⟩
  have HB1 := hid (below_from HB0.out hb)
  have HY1 := hid (HX1.out.later hb)
  have HY2 := hid (HX2.out.later hb)
  clear hb c0 c1 c2 c3 d0 d1 d2 d3 d4
  obtain ⟨c0, c1, c2, c3⟩ := HY1.out.cells
  obtain ⟨d0, d1, d2, d3, d4⟩ := HY2.out.cells
  go_wp2_with fail
  refine (KP.out w1 HB1.out).mono ?_
  rintro e w2 ⟨fa, m, fc, rfl, ⟨hrr, _⟩, hb⟩
  have HB2 := hid (below_from HB1.out hb)
  clear hb c0 c1 c2 c3 d0 d1 d2 d3 d4
  cases f with
  | false =>
    clear hrr HPS
    go_wp2
    go_ret3
    exact ⟨rfl, by rw [← hS]; exact HB2.out⟩
  | true =>
    have hml : m = x.length := hrr.len
    have hm0 : 0 < m := by have := HPS.out rfl; omega
    obtain ⟨bb, bo, rfl, hcs⟩ := hrr.cells hm0
    have hle := hrr.le
    have hbd := hrr.bound
    have hcb := hrr.capb
    have HML := hid hml
    have HRR := hid hrr
    have HCS := hid hcs
    have z1 := (hcs 0 hm0).2
    have hm0' : (0 : Int) < m := by omega
    clear hrr hml HPS hcs
    go_wp2
    go_loopw [10, 33] (fun y p wr => ∃ j : Nat, y = .int .i64 (lowAt x j) ∧ p = .int .i64 j ∧ j ≤ m ∧ Below w2.heap.size w2 wr) (fun _ p _ => m - (intOf p).toNat)
    case atStart => exact ⟨0, rfl, rfl, by omega, Below.refl _ _⟩
    case round =>
      obtain ⟨j, rfl, rfl, hj, hbel⟩ := hrel
      have HBE := hid hbel
      by_cases hlt : j < m
      · have hlt' : (j : Int) < m := by omega
        have y0 := cell_later hbel (HCS.out j hlt).1
        have y1 := cell_later hbel (HCS.out j hlt).2
        clear hbel
        go_wp2
        go_roundw
        case rel => exact ⟨j + 1, by first | rfl | (simp [lowAt]), by go_num, by omega, by first | exact HBE.out.alloc HBE.out.size _ | exact HBE.out⟩
        case measure => simp [intOf]; omega
      · obtain rfl : j = m := by omega
        clear hbel
        go_wp2
        go_ret3
        refine ⟨?_, by rw [← hS]; exact below_from HB2.out HBE.out⟩
        rw [HML.out]
        rfl
end Go.Proofs.YtecibbokbonmcaeGreat
