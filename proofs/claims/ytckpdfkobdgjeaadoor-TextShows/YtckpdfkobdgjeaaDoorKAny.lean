/- A region that draws its order, walked by what each operation yields: whatever the order, each operation finds what it looks at. -/
import Derived.Orders
import Derived.WalkKit
import Derived.Below
import Derived.WalkSpells
import Derived.WalkLawsBesides
import Derived.Deep.QuietTactic
import Derived.BigQuiet
namespace Go.Proofs.YtckpdfkobdgjeaaDoor
open Go.RowKit
def waitsFor (o : Oper) (j : Nat) : Bool := o.after.toList.any fun e => Region.binds .any e && (e.on == j)
def notDst (ops : Array Oper) (d : Nat) : Bool := ops.all fun o => o.dst != some d
def OpDoes (P : Program) (o : Oper) (ev : Operand → Value) (w : World) (D : Value → World → Prop) : Prop :=
  (∃ v w', (execOp ev o).run P w = .ok (.value v) w' ∧ D v w' ∧ Below w.heap.size w w') ∨
  (∃ f args, (execOp ev o).run P w = .ok (.enter f args) w ∧ Calls P f args w fun e w' => ∃ v, e = .returned v ∧ D v w' ∧ Below w.heap.size w w')
def regOk (ops : Array Oper) (gs : List (Nat × Bool)) (N : Nat) : Bool :=
  ((List.range ops.size).all fun i => match ops[i]? with
    | some o => (o.after.all fun e => !Region.binds .any e || decide (e.on < i)) && (match o.dst with | some d => decide (d < N) | none => true) && (match o.guard with | none => true | some g => waitsFor o g.1 && gs.contains g)
    | none => true) &&
  decide ((ops.toList.filterMap (·.dst)).Nodup)
theorem regOk_at {ops : Array Oper} {gs : List (Nat × Bool)} {N : Nat} (h : regOk ops gs N = true) {i : Nat} {o : Oper} (ho : ops[i]? = some o) :
    (∀ e ∈ o.after, Region.binds .any e = true → e.on < i) ∧ (∀ d, o.dst = some d → d < N) ∧ (∀ g, o.guard = some g → waitsFor o g.1 = true ∧ g ∈ gs) := by
  have hlt : i < ops.size := (Array.getElem?_eq_some_iff.1 ho).1
  simp only [regOk, Bool.and_eq_true, List.all_eq_true, List.mem_range] at h
  have h1 := h.1 i hlt
  rw [ho] at h1
  simp only [Bool.and_eq_true, Array.all_eq_true_iff_forall_mem, Bool.or_eq_true, Bool.not_eq_true', decide_eq_true_eq] at h1
  refine ⟨fun e he hb => (h1.1.1 e he).resolve_left (by simp [hb]), fun d hd => ?_, fun g hg => ?_⟩
  · have := h1.1.2
    rw [hd] at this
    simpa using this
  · have := h1.2
    rw [hg] at this
    simpa using this
theorem nodup_at {α β : Type} [DecidableEq β] {f : α → Option β} : ∀ {l : List α}, (l.filterMap f).Nodup → ∀ {i j : Nat} {x y : α} {d : β}, l[i]? = some x → l[j]? = some y → f x = some d → f y = some d → i = j
  | [], _, i, j, x, y, d, hx, _, _, _ => by simp at hx
  | z :: l, h, 0, 0, x, y, d, hx, hy, fx, fy => rfl
  | z :: l, h, 0, j + 1, x, y, d, hx, hy, fx, fy => by
    simp at hx
    subst hx
    rw [List.filterMap_cons, fx, List.nodup_cons] at h
    have : d ∈ l.filterMap f := List.mem_filterMap.2 ⟨y, List.mem_of_getElem? (by simpa using hy), fy⟩
    exact absurd this h.1
  | z :: l, h, i + 1, 0, x, y, d, hx, hy, fx, fy => by
    simp at hy
    subst hy
    rw [List.filterMap_cons, fy, List.nodup_cons] at h
    have : d ∈ l.filterMap f := List.mem_filterMap.2 ⟨x, List.mem_of_getElem? (by simpa using hx), fx⟩
    exact absurd this h.1
  | z :: l, h, i + 1, j + 1, x, y, d, hx, hy, fx, fy => by
    have h' : (l.filterMap f).Nodup := by
      rw [List.filterMap_cons] at h
      cases hz : f z with
      | none => rw [hz] at h; exact h
      | some q => rw [hz, List.nodup_cons] at h; exact h.2
    have := nodup_at h' (i := i) (j := j) (by simpa using hx) (by simpa using hy) fx fy
    omega
theorem regOk_dst {ops : Array Oper} {gs : List (Nat × Bool)} {N : Nat} (h : regOk ops gs N = true) {i j : Nat} {x y : Oper} {d : Nat} (hx : ops[i]? = some x) (hy : ops[j]? = some y) (dx : x.dst = some d) (dy : y.dst = some d) : i = j := by
  simp only [regOk, Bool.and_eq_true, decide_eq_true_eq] at h
  exact nodup_at h.2 (by simpa using hx) (by simpa using hy) dx dy
structure RInv (ops : Array Oper) (W0 : World) (T0 : Array Value) (df : List Deferred) (D : Nat → Value → World → Prop) (listed : Array Bool) (a : Act) (w : World) : Prop where
  size : listed.size = ops.size
  below : Below W0.heap.size W0 w
  df : a.defers = df
  tsize : a.tmps.size = T0.size
  old : ∀ d, notDst ops d = true → a.tmps.getD d undef = T0.getD d undef
  got : ∀ i o d, ops[i]? = some o → o.dst = some d → listed.getD i false = true → D i (a.tmps.getD d undef) w
def unlisted (listed : Array Bool) : Nat := (listed.toList.filter (! ·)).length
theorem filter_set : ∀ {l : List Bool} {i : Nat}, l[i]? = some false → ((l.set i true).filter (! ·)).length + 1 = (l.filter (! ·)).length
  | [], i, h => by simp at h
  | x :: l, 0, h => by simp at h; simp [h]
  | x :: l, i + 1, h => by
    have := filter_set (l := l) (i := i) (by simpa using h)
    simp only [List.set_cons_succ, List.filter_cons]
    split
    · simp only [List.length_cons]; omega
    · exact this
theorem unlisted_set {listed : Array Bool} {i : Nat} (h : listed.getD i true = false) : unlisted (listed.setIfInBounds i true) + 1 = unlisted listed := by
  have hi : i < listed.size := by
    by_cases e : i < listed.size
    · exact e
    · simp [e] at h
  obtain ⟨l⟩ := listed
  simp only [unlisted, List.setIfInBounds_toArray]
  refine filter_set ?_
  simp at hi
  simpa [hi] using h
theorem all_listed {ops : Array Oper} {gs : List (Nat × Bool)} {N : Nat} (h : regOk ops gs N = true) {listed : Array Bool} (hs : listed.size = ops.size) (hr : Region.ready .any ops listed = []) : ∀ i, i < ops.size → listed.getD i false = true := by
  intro i
  induction i using Nat.strongRecOn with
  | _ i ih =>
    intro hi
    cases g : listed.getD i false with
    | true => rfl
    | false =>
      have ho : ops[i]? = some ops[i] := Array.getElem?_eq_getElem hi
      have h1 := regOk_at h ho
      have : i ∈ Region.ready .any ops listed := by
        rw [mem_ready]
        refine ⟨?_, _, ho, fun e he hb => ih e.on (h1.1 e he hb) (by have := h1.1 e he hb; omega)⟩
        have : i < listed.size := by omega
        simpa [this] using g
      rw [hr] at this
      cases this
theorem yielded_of {ops : Array Oper} {T : Array Value} {g d : Nat} {o : Oper} {b : Bool} (ho : ops[g]? = some o) (hd : o.dst = some d) (hl : d < T.size) (h : T.getD d undef = .bool b) : yielded ops T g = some b := by
  have : T[d]? = some (.bool b) := by
    rw [Array.getElem?_eq_getElem hl]
    have h2 : T.getD d undef = T[d] := by simp [hl]
    rw [← h2, h]
  simp [yielded, ho, hd, this]
theorem wpAny_inv {P : Program} {ops : Array Oper} {Q : Exit → Act → World → Prop} {W0 : World} {T0 : Array Value} {df : List Deferred} {D : Nat → Value → World → Prop} {gs : List (Nat × Bool)}
    (hok : regOk ops gs T0.size = true) (hg : ∀ g ∈ gs, ∃ o d, ops[g.1]? = some o ∧ o.dst = some d ∧ ∀ v w, D g.1 v w → v = .bool g.2)
    (hD : ∀ i v w w', D i v w → Below w.heap.size w w' → D i v w')
    (hstep : ∀ i o, ops[i]? = some o → ∀ (T : Array Value) (w : World), Below W0.heap.size W0 w → (∀ d, notDst ops d = true → T.getD d undef = T0.getD d undef) →
      (∀ j oj d, ops[j]? = some oj → oj.dst = some d → waitsFor o j = true → D j (T.getD d undef) w) → OpDoes P o (Act.eval ⟨T, df⟩) w (D i))
    (hfin : ∀ (T : Array Value) (w : World), Below W0.heap.size W0 w → T.size = T0.size → (∀ d, notDst ops d = true → T.getD d undef = T0.getD d undef) → (∀ i o d, ops[i]? = some o → o.dst = some d → D i (T.getD d undef) w) → Q .normal ⟨T, df⟩ w) :
    ∀ (fuel : Nat) (listed : Array Bool) (a : Act) (w : World), unlisted listed ≤ fuel → RInv ops W0 T0 df D listed a w → wpAny P .any ops Q fuel listed a w := by
  have fin : ∀ (listed : Array Bool) (a : Act) (w : World), RInv ops W0 T0 df D listed a w → Region.ready .any ops listed = [] → Q .normal a w := by
    rintro listed ⟨T, ds⟩ w I hr
    obtain rfl : ds = df := I.df
    exact hfin T w I.below I.tsize I.old fun i o d ho hd => I.got i o d ho hd (all_listed hok I.size hr i (Array.getElem?_eq_some_iff.1 ho).1)
  intro fuel
  induction fuel with
  | zero =>
    intro listed a w hf I
    have hr : Region.ready .any ops listed = [] := by
      cases hr : Region.ready .any ops listed with
      | nil => rfl
      | cons i l =>
        have : i ∈ Region.ready .any ops listed := by rw [hr]; simp
        have := unlisted_set (mem_ready.1 this).1
        omega
    exact ⟨hr, fin listed a w I hr⟩
  | succ fuel ih =>
    intro listed a w hf I
    refine ⟨fin listed a w I, fun i hi => ?_⟩
    obtain ⟨h0, o, ho, hall⟩ := mem_ready.1 hi
    have hcount := unlisted_set h0
    obtain ⟨T, ds⟩ := a
    obtain rfl : ds = df := I.df
    have hat := regOk_at hok ho
    have hdep : ∀ j oj d, ops[j]? = some oj → oj.dst = some d → waitsFor o j = true → D j (T.getD d undef) w := by
      intro j oj d hj hd hw
      simp only [waitsFor, List.any_eq_true, Bool.and_eq_true, beq_iff_eq] at hw
      obtain ⟨e, he, hb, rfl⟩ := hw
      exact I.got _ oj d hj hd (hall e (by simpa using he) hb)
    have hdo := hstep i o ho T w I.below I.old hdep
    have next : ∀ (v : Value) (w' : World), D i v w' → Below w.heap.size w w' → wpAny P .any ops Q fuel (listed.setIfInBounds i true) (Act.put ⟨T, ds⟩ o.dst v) w' := by
      intro v w' hv hb
      refine ih _ _ _ (by omega) ?_
      cases hd : o.dst with
      | none =>
        refine ⟨by simpa using I.size, I.below.trans (hb.mono I.below.size), rfl, I.tsize, I.old, fun j oj d hj hdj hl => ?_⟩
        by_cases e : i = j
        · subst e
          rw [ho] at hj
          cases hj
          rw [hd] at hdj
          cases hdj
        · rw [getD_set_ne false e] at hl
          exact hD _ _ _ _ (I.got j oj d hj hdj hl) hb
      | some d0 =>
        have hd0 : d0 < T.size := Nat.lt_of_lt_of_eq (hat.2.1 d0 hd) I.tsize.symm
        refine ⟨by simpa using I.size, I.below.trans (hb.mono I.below.size), rfl, by simpa [Act.put] using I.tsize, fun d hnd => ?_, fun j oj d hj hdj hl => ?_⟩
        · have hne : d0 ≠ d := by
            rintro rfl
            simp only [notDst, Array.all_eq_true_iff_forall_mem] at hnd
            have := hnd o (Array.mem_of_getElem? ho)
            simp [hd] at this
          have := I.old d hnd
          simp only [Act.put] at this ⊢
          rw [← this]
          simp [Array.getElem?_setIfInBounds_ne hne]
        · by_cases e : i = j
          · subst e
            rw [ho] at hj
            cases hj
            rw [hd] at hdj
            cases hdj
            simpa [Act.put, hd0] using hv
          · have hne : d0 ≠ d := by
              rintro rfl
              exact e (regOk_dst hok ho hj hd hdj)
            rw [getD_set_ne false e] at hl
            have := hD _ _ _ _ (I.got j oj d hj hdj hl) hb
            simp only [Act.put] at this ⊢
            simpa [Array.getElem?_setIfInBounds_ne hne] using this
    have hw : Region.wanted o (yielded ops T) = true := by
      unfold Region.wanted
      cases hgd : o.guard with
      | none => rfl
      | some g =>
        obtain ⟨h1, h2⟩ := hat.2.2 g hgd
        obtain ⟨og, d, hog, hdg, hv⟩ := hg g h2
        have := hv _ _ (hdep g.1 og d hog hdg h1)
        have hdl : d < T.size := Nat.lt_of_lt_of_eq ((regOk_at hok hog).2.1 d hdg) I.tsize.symm
        simp [yielded_of hog hdg hdl this]
    unfold wpOp
    simp only [ho, hw, if_true]
    refine Or.inl ?_
    unfold Oper.wp
    rcases hdo with ⟨v, w', hrun, hv, hb⟩ | ⟨f, args, hrun, hc⟩
    · rw [hrun]
      exact next v w' hv hb
    · rw [hrun]
      refine Calls.mono hc ?_
      rintro e w' ⟨v, rfl, hv, hb⟩
      exact next v w' hv hb
theorem wp_region_inv {P : Program} {ops : Array Oper} {Q : Exit → Act → World → Prop} {id : Nat} {T0 : Array Value} {df : List Deferred} {w : World} (D : Nat → Value → World → Prop) (gs : List (Nat × Bool)) (hm : P.follows .mixedOrders = true)
    (hok : regOk ops gs T0.size = true) (hg : ∀ g ∈ gs, ∃ o d, ops[g.1]? = some o ∧ o.dst = some d ∧ ∀ v w, D g.1 v w → v = .bool g.2)
    (hD : ∀ i v w w', D i v w → Below w.heap.size w w' → D i v w')
    (hstep : ∀ i o, ops[i]? = some o → ∀ (T : Array Value) (w' : World), Below w.heap.size w w' → (∀ d, notDst ops d = true → T.getD d undef = T0.getD d undef) →
      (∀ j oj d, ops[j]? = some oj → oj.dst = some d → waitsFor o j = true → D j (T.getD d undef) w') → OpDoes P o (Act.eval ⟨T, df⟩) w' (D i))
    (hfin : ∀ (T : Array Value) (w' : World), Below w.heap.size w w' → T.size = T0.size → (∀ d, notDst ops d = true → T.getD d undef = T0.getD d undef) → (∀ i o d, ops[i]? = some o → o.dst = some d → D i (T.getD d undef) w') → Q .normal ⟨T, df⟩ w') :
    (Code.region id ops true).wp P Q ⟨T0, df⟩ w := by
  refine wp_region_any hm (wpAny_inv (W0 := w.drewN 1) (df := df) hok hg hD ?_ ?_ _ _ _ _ ?_ ?_)
  · exact fun i o ho T w' hb => hstep i o ho T w' ((below_drewN (Below.refl _ _) 1).trans hb)
  · exact fun T w' hb => hfin T w' ((below_drewN (Below.refl _ _) 1).trans hb)
  · simp [unlisted]
  · exact ⟨by simp, Below.refl _ _, rfl, rfl, fun _ _ => rfl, fun i o d ho _ hl => by
      have hi : i < ops.size := (Array.getElem?_eq_some_iff.1 ho).1
      simp [hi] at hl⟩
def dep (ops : Array Oper) (i j d : Nat) : Bool := match ops[i]?, ops[j]? with
  | some o, some oj => waitsFor o j && (oj.dst == some d)
  | _, _ => false
def dstAt (ops : Array Oper) (i d : Nat) : Bool := match ops[i]? with
  | some o => o.dst == some d
  | none => false
def gsOk (ops : Array Oper) (gs : List (Nat × Bool)) : Bool := gs.all fun g => match ops[g.1]? with
  | some o => o.dst.isSome
  | none => false
def AllOps (F : Nat → Oper → Prop) : List Oper → Nat → Prop
  | [], _ => True
  | o :: l, k => F k o ∧ AllOps F l (k + 1)
theorem AllOps.at {F : Nat → Oper → Prop} : ∀ {l : List Oper} {k : Nat}, AllOps F l k → ∀ i o, l[i]? = some o → F (k + i) o
  | [], _, _, i, o, h => by simp at h
  | x :: l, k, ⟨h1, _⟩, 0, o, h => by simp at h; subst h; exact h1
  | x :: l, k, ⟨_, h2⟩, i + 1, o, h => by
    have := AllOps.at h2 i o (by simpa using h)
    rwa [show k + (i + 1) = k + 1 + i from by omega]
theorem AllOps.cons {F : Nat → Oper → Prop} {o : Oper} {l : List Oper} {k : Nat} (k' : Nat) (hk : k + 1 = k') (h1 : F k o) (h2 : AllOps F l k') : AllOps F (o :: l) k := by subst hk; exact ⟨h1, h2⟩
def regOps : Code → Nat → Option (Array Oper)
  | .region id ops _, k => if id = k then some ops else none
  | .seq a b, k => (regOps a k).or (regOps b k)
  | .cond _ a b, k => (regOps a k).or (regOps b k)
  | .block _ b, k => regOps b k
  | .loop b, k => regOps b k
  | .scope b, k => regOps b k
  | .rangeFunc _ _ a b, k => (regOps a k).or (regOps b k)
  | _, _ => none
theorem wp_region_ops {P : Program} {Q : Exit → Act → World → Prop} {id : Nat} {T0 : Array Value} {df : List Deferred} {w : World} {ops0 : Array Oper} (ops : Array Oper) (heq : ops0 = ops) (D : Nat → Value → World → Prop) (gs : List (Nat × Bool)) (hm : P.follows .mixedOrders = true)
    (hok : regOk ops gs T0.size = true) (hgs : gsOk ops gs = true) (hg : ∀ g ∈ gs, ∀ v w, D g.1 v w → v = .bool g.2)
    (hD : ∀ i v w w', D i v w → Below w.heap.size w w' → D i v w')
    (hstep : AllOps (fun i o => ∀ (T : Array Value) (w' : World), Below w.heap.size w w' → (∀ d, notDst ops d = true → T.getD d undef = T0.getD d undef) →
      (∀ j d, dep ops i j d = true → D j (T.getD d undef) w') → OpDoes P o (Act.eval ⟨T, df⟩) w' (D i)) ops0.toList 0)
    (hfin : ∀ (T : Array Value) (w' : World), Below w.heap.size w w' → T.size = T0.size → (∀ d, notDst ops d = true → T.getD d undef = T0.getD d undef) → (∀ i d, dstAt ops i d = true → D i (T.getD d undef) w') → Q .normal ⟨T, df⟩ w') :
    (Code.region id ops0 true).wp P Q ⟨T0, df⟩ w := by
  have heq := heq.symm
  subst heq
  refine wp_region_inv D gs hm hok (fun g hgm => ?_) hD (fun i o ho T w' hb ht hd => ?_) (fun T w' hb hs ht hd => ?_)
  · have := List.all_eq_true.1 hgs g hgm
    cases ho : ops[g.1]? with
    | none => rw [ho] at this; cases this
    | some o =>
      rw [ho] at this
      obtain ⟨d, hd⟩ := Option.isSome_iff_exists.1 this
      exact ⟨o, d, rfl, hd, hg g hgm⟩
  · have := hstep.at i o (by simpa using ho)
    rw [Nat.zero_add] at this
    refine this T w' hb ht fun j d hj => ?_
    unfold dep at hj
    rw [ho] at hj
    cases hoj : ops[j]? with
    | none => rw [hoj] at hj; cases hj
    | some oj =>
      rw [hoj] at hj
      simp only [Bool.and_eq_true, beq_iff_eq] at hj
      exact hd j oj d hoj hj.2 hj.1
  · refine hfin T w' hb hs ht fun i d hi => ?_
    unfold dstAt at hi
    cases ho : ops[i]? with
    | none => rw [ho] at hi; cases hi
    | some o =>
      rw [ho] at hi
      exact hd i o d ho (by simpa using hi)
def Des : Type := { p : Value → World → Prop // ∀ v w w', p v w → Below w.heap.size w w' → p v w' }
def isV (v : Value) : Des := ⟨fun u _ => u = v, fun _ _ _ h _ => h⟩
def desAt (Ds : List Des) (i : Nat) : Value → World → Prop := (Ds.getD i (isV undef)).1
theorem wp_region_des {P : Program} {Q : Exit → Act → World → Prop} {id : Nat} {T0 : Array Value} {df : List Deferred} {w : World} {ops0 : Array Oper} (ops : Array Oper) (heq : ops0 = ops) (Ds : List Des) (gs : List (Nat × Bool)) (hm : P.follows .mixedOrders = true)
    (hok : regOk ops gs T0.size = true) (hgs : gsOk ops gs = true) (hg : ∀ g ∈ gs, ∀ v w, desAt Ds g.1 v w → v = .bool g.2)
    (hstep : AllOps (fun i o => ∀ (T : Array Value) (w' : World), Below w.heap.size w w' → (∀ d, notDst ops d = true → T.getD d undef = T0.getD d undef) →
      (∀ j d, dep ops i j d = true → desAt Ds j (T.getD d undef) w') → OpDoes P o (Act.eval ⟨T, df⟩) w' (desAt Ds i)) ops0.toList 0)
    (hfin : ∀ (T : Array Value) (w' : World), Below w.heap.size w w' → T.size = T0.size → (∀ d, notDst ops d = true → T.getD d undef = T0.getD d undef) → (∀ i d, dstAt ops i d = true → desAt Ds i (T.getD d undef) w') → Q .normal ⟨T, df⟩ w') :
    (Code.region id ops0 true).wp P Q ⟨T0, df⟩ w :=
  wp_region_ops ops heq (desAt Ds) gs hm hok hgs hg (fun i v w w' h hb => (Ds.getD i (isV undef)).2 v w w' h hb) hstep hfin
def fillL : List Bool → List Value → Nat → (Nat → Value) → List Value
  | true :: bs, v :: vs, k, us => v :: fillL bs vs (k + 1) us
  | false :: bs, _ :: vs, k, us => us k :: fillL bs vs (k + 1) us
  | _, _, _, _ => []
theorem fillL_eq {us : Nat → Value} {f : Nat → Bool} : ∀ {vs : List Value} {k : Nat}, (∀ i, i < vs.length → f (k + i) = true → us (k + i) = vs.getD i undef) →
    fillL ((List.range vs.length).map fun i => f (k + i)) vs k us = (List.range vs.length).map fun i => us (k + i)
  | [], k, _ => rfl
  | v :: vs, k, h => by
    have ih := fillL_eq (us := us) (f := f) (vs := vs) (k := k + 1) (fun i hi hf => by
      have := h (i + 1) (by simpa using hi) (by rwa [show k + (i + 1) = k + 1 + i from by omega])
      rw [show k + (i + 1) = k + 1 + i from by omega] at this
      simpa using this)
    have e : ∀ g : Nat → Bool, (List.range (v :: vs).length).map g = g 0 :: (List.range vs.length).map fun i => g (i + 1) := fun g => by
      rw [List.length_cons, List.range_succ_eq_map, List.map_cons, List.map_map]; rfl
    have e' : ∀ g : Nat → Value, (List.range (v :: vs).length).map g = g 0 :: (List.range vs.length).map fun i => g (i + 1) := fun g => by
      rw [List.length_cons, List.range_succ_eq_map, List.map_cons, List.map_map]; rfl
    rw [e, e']
    have s1 : (fun i => f (k + (i + 1))) = fun i => f (k + 1 + i) := by funext i; congr 1; omega
    have s2 : (fun i => us (k + (i + 1))) = fun i => us (k + 1 + i) := by funext i; congr 1; omega
    simp only [s1, s2]
    cases hf : f (k + 0) with
    | true =>
      have := h 0 (by simp) hf
      rw [fillL, ih, this]; rfl
    | false => rw [fillL, ih]; rfl
theorem lit_then {ops : Array Oper} {T0 T : Array Value} (ds : List Bool) (hds : (List.range T0.size).map (notDst ops) = ds) (hs : T.size = T0.size) (hl : ∀ d, notDst ops d = true → T.getD d undef = T0.getD d undef) :
    T = (fillL ds T0.toList 0 fun d => T.getD d undef).toArray := by
  have := fillL_eq (us := fun d => T.getD d undef) (f := notDst ops) (vs := T0.toList) (k := 0) (fun i hi hf => by
    rw [Nat.zero_add] at hf ⊢
    rw [hl i hf]
    simp [List.getD])
  simp only [Nat.zero_add, Array.length_toList] at this
  rw [← hds, this]
  apply Array.ext
  · simp [hs]
  · intro i h1 h2
    simp [h1]
end Go.Proofs.YtckpdfkobdgjeaaDoor
