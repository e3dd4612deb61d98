/- A region that draws its order, in a round of a loop over a function, that changes no old memory. -/
import Derived.Test.YtckpdfkobdgjeaaGreatDoorKAll1
namespace Go.Proofs.YtckpdfkobdgjeaaGreatDoor
open Go.RowKit
theorem wpAnyIn_inv0 {l n : Nat} {P : Program} {ops : Array Oper} {Q : Exit → Act → World → Prop} {W0 : World} {T0 : Array Value} {df : List Deferred} {D : Nat → Value → World → Prop} {gs : List (Nat × Bool)}
    (hnd : noDefer ops = true) (hok : regOk ops gs T0.size = true) (hg : ∀ g ∈ gs, ∃ o d, ops[g.1]? = some o ∧ o.dst = some d ∧ ∀ v w, D g.1 v w → v = .bool g.2)
    (hD : ∀ i v w w', D i v w → Below w.heap.size w w' → D i v w')
    (hstep : ∀ i o, ops[i]? = some o → ∀ (T : Array Value) (w : World), Below W0.heap.size W0 w → (∀ d, notDst ops d = true → T.getD d undef = T0.getD d undef) →
      (∀ j oj d, ops[j]? = some oj → oj.dst = some d → waitsFor o j = true → D j (T.getD d undef) w) → OpDoes P o (Act.eval ⟨T, df⟩) w (D i))
    (hfin : ∀ (T : Array Value) (w : World), Below W0.heap.size W0 w → T.size = T0.size → (∀ d, notDst ops d = true → T.getD d undef = T0.getD d undef) → (∀ i o d, ops[i]? = some o → o.dst = some d → D i (T.getD d undef) w) → Q .normal ⟨T, df⟩ w) :
    ∀ (fuel : Nat) (listed : Array Bool) (a : Act) (w : World), unlisted listed ≤ fuel → RInv ops W0 T0 df D listed a w → wpAnyIn (Fence.wide.inRound l) n P .any ops Q fuel listed a w := by
  have fin : ∀ (listed : Array Bool) (a : Act) (w : World), RInv ops W0 T0 df D listed a w → Region.ready .any ops listed = [] → Q .normal a w := by
    rintro listed ⟨T, ds⟩ w I hr
    obtain rfl : ds = df := I.df
    exact hfin T w I.below I.tsize I.old fun i o d ho hd => I.got i o d ho hd (all_listed hok I.size hr i (Array.getElem?_eq_some_iff.1 ho).1)
  intro fuel
  induction fuel with
  | zero =>
    intro listed a w hf I
    have hr : Region.ready .any ops listed = [] := by
      cases hr : Region.ready .any ops listed with
      | nil => rfl
      | cons i l =>
        have : i ∈ Region.ready .any ops listed := by rw [hr]; simp
        have := unlisted_set (mem_ready.1 this).1
        omega
    exact ⟨hr, fin listed a w I hr⟩
  | succ fuel ih =>
    intro listed a w hf I
    refine ⟨fin listed a w I, fun i hi => ?_⟩
    obtain ⟨h0, o, ho, hall⟩ := mem_ready.1 hi
    have hcount := unlisted_set h0
    obtain ⟨T, ds⟩ := a
    obtain rfl : ds = df := I.df
    have hat := regOk_at hok ho
    have hdep : ∀ j oj d, ops[j]? = some oj → oj.dst = some d → waitsFor o j = true → D j (T.getD d undef) w := by
      intro j oj d hj hd hw
      simp only [waitsFor, List.any_eq_true, Bool.and_eq_true, beq_iff_eq] at hw
      obtain ⟨e, he, hb, rfl⟩ := hw
      exact I.got _ oj d hj hd (hall e (by simpa using he) hb)
    have hdo := hstep i o ho T w I.below I.old hdep
    have next : ∀ (v : Value) (w' : World), D i v w' → Below w.heap.size w w' → wpAnyIn (Fence.wide.inRound l) n P .any ops Q fuel (listed.setIfInBounds i true) (Act.put ⟨T, ds⟩ o.dst v) w' := by
      intro v w' hv hb
      refine ih _ _ _ (by omega) ?_
      cases hd : o.dst with
      | none =>
        refine ⟨by simpa using I.size, I.below.trans (hb.mono I.below.size), rfl, I.tsize, I.old, fun j oj d hj hdj hl => ?_⟩
        by_cases e : i = j
        · subst e
          rw [ho] at hj
          cases hj
          rw [hd] at hdj
          cases hdj
        · rw [getD_set_ne false e] at hl
          exact hD _ _ _ _ (I.got j oj d hj hdj hl) hb
      | some d0 =>
        have hd0 : d0 < T.size := Nat.lt_of_lt_of_eq (hat.2.1 d0 hd) I.tsize.symm
        refine ⟨by simpa using I.size, I.below.trans (hb.mono I.below.size), rfl, by simpa [Act.put] using I.tsize, fun d hnd2 => ?_, fun j oj d hj hdj hl => ?_⟩
        · have hne : d0 ≠ d := by
            rintro rfl
            simp only [notDst, Array.all_eq_true_iff_forall_mem] at hnd2
            have := hnd2 o (Array.mem_of_getElem? ho)
            simp [hd] at this
          have := I.old d hnd2
          simp only [Act.put] at this ⊢
          rw [← this]
          simp [Array.getElem?_setIfInBounds_ne hne]
        · by_cases e : i = j
          · subst e
            rw [ho] at hj
            cases hj
            rw [hd] at hdj
            cases hdj
            simpa [Act.put, hd0] using hv
          · have hne : d0 ≠ d := by
              rintro rfl
              exact e (regOk_dst hok ho hj hd hdj)
            rw [getD_set_ne false e] at hl
            have := hD _ _ _ _ (I.got j oj d hj hdj hl) hb
            simp only [Act.put] at this ⊢
            simpa [Array.getElem?_setIfInBounds_ne hne] using this
    have hw : Region.wanted o (yielded ops T) = true := by
      unfold Region.wanted
      cases hgd : o.guard with
      | none => rfl
      | some g =>
        obtain ⟨h1, h2⟩ := hat.2.2 g hgd
        obtain ⟨og, d, hog, hdg, hv⟩ := hg g h2
        have := hv _ _ (hdep g.1 og d hog hdg h1)
        have hdl : d < T.size := Nat.lt_of_lt_of_eq ((regOk_at hok hog).2.1 d hdg) I.tsize.symm
        simp [yielded_of hog hdg hdl this]
    unfold wpOpIn
    simp only [ho, hw, if_true]
    unfold Oper.wpIn
    refine ⟨fun f _ => trivial, ?_⟩
    rw [Fence.inRound_round, sem_round hnd ho]
    rcases hdo with ⟨v, w', hrun, hv, hb⟩ | ⟨f, args, hrun, hc⟩
    · rw [hrun]
      exact next v w' hv hb
    · rw [hrun]
      refine ⟨fun h => by simp [Fence.inRound, Fence.wide] at h, (calls_round hc).mono ?_⟩
      rintro e w' ⟨v, rfl, hv, hb⟩
      exact next v w' hv hb
theorem wpIn_region_inv {l n : Nat} {P : Program} {ops : Array Oper} {Q : Exit → Act → World → Prop} {id : Nat} {T0 : Array Value} {df : List Deferred} {w : World} (D : Nat → Value → World → Prop) (gs : List (Nat × Bool)) (hm : P.follows .mixedOrders = true)
    (hnd : noDefer ops = true) (hok : regOk ops gs T0.size = true) (hg : ∀ g ∈ gs, ∃ o d, ops[g.1]? = some o ∧ o.dst = some d ∧ ∀ v w, D g.1 v w → v = .bool g.2)
    (hD : ∀ i v w w', D i v w → Below w.heap.size w w' → D i v w')
    (hstep : ∀ i o, ops[i]? = some o → ∀ (T : Array Value) (w' : World), Below w.heap.size w w' → (∀ d, notDst ops d = true → T.getD d undef = T0.getD d undef) →
      (∀ j oj d, ops[j]? = some oj → oj.dst = some d → waitsFor o j = true → D j (T.getD d undef) w') → OpDoes P o (Act.eval ⟨T, df⟩) w' (D i))
    (hfin : ∀ (T : Array Value) (w' : World), Below w.heap.size w w' → T.size = T0.size → (∀ d, notDst ops d = true → T.getD d undef = T0.getD d undef) → (∀ i o d, ops[i]? = some o → o.dst = some d → D i (T.getD d undef) w') → Q .normal ⟨T, df⟩ w') :
    (Code.region id ops true).wpIn (Fence.wide.inRound l) n P Q ⟨T0, df⟩ w := by
  refine wpIn_region_any hm (wpAnyIn_inv0 (W0 := w.drewN 1) (df := df) hnd hok hg hD ?_ ?_ _ _ _ _ ?_ ?_)
  · exact fun i o ho T w' hb => hstep i o ho T w' ((below_drewN (Below.refl _ _) 1).trans hb)
  · exact fun T w' hb => hfin T w' ((below_drewN (Below.refl _ _) 1).trans hb)
  · simp [unlisted]
  · exact ⟨by simp, Below.refl _ _, rfl, rfl, fun _ _ => rfl, fun i o d ho _ hl => by
      have hi : i < ops.size := (Array.getElem?_eq_some_iff.1 ho).1
      simp [hi] at hl⟩
theorem wpIn_region_ops {l n : Nat} {P : Program} {Q : Exit → Act → World → Prop} {id : Nat} {T0 : Array Value} {df : List Deferred} {w : World} {ops0 : Array Oper} (ops : Array Oper) (heq : ops0 = ops) (D : Nat → Value → World → Prop) (gs : List (Nat × Bool)) (hm : P.follows .mixedOrders = true)
    (hnd : noDefer ops = true) (hok : regOk ops gs T0.size = true) (hgs : gsOk ops gs = true) (hg : ∀ g ∈ gs, ∀ v w, D g.1 v w → v = .bool g.2)
    (hD : ∀ i v w w', D i v w → Below w.heap.size w w' → D i v w')
    (hstep : AllOps (fun i o => ∀ (T : Array Value) (w' : World), Below w.heap.size w w' → (∀ d, notDst ops d = true → T.getD d undef = T0.getD d undef) →
      (∀ j d, dep ops i j d = true → D j (T.getD d undef) w') → OpDoes P o (Act.eval ⟨T, df⟩) w' (D i)) ops0.toList 0)
    (hfin : ∀ (T : Array Value) (w' : World), Below w.heap.size w w' → T.size = T0.size → (∀ d, notDst ops d = true → T.getD d undef = T0.getD d undef) → (∀ i d, dstAt ops i d = true → D i (T.getD d undef) w') → Q .normal ⟨T, df⟩ w') :
    (Code.region id ops0 true).wpIn (Fence.wide.inRound l) n P Q ⟨T0, df⟩ w := by
  have heq := heq.symm
  subst heq
  refine wpIn_region_inv D gs hm hnd hok (fun g hgm => ?_) hD (fun i o ho T w' hb ht hd => ?_) (fun T w' hb hs ht hd => ?_)
  · have := List.all_eq_true.1 hgs g hgm
    cases ho : ops[g.1]? with
    | none => rw [ho] at this; cases this
    | some o =>
      rw [ho] at this
      obtain ⟨d, hd⟩ := Option.isSome_iff_exists.1 this
      exact ⟨o, d, rfl, hd, hg g hgm⟩
  · have := hstep.at i o (by simpa using ho)
    rw [Nat.zero_add] at this
    refine this T w' hb ht fun j d hj => ?_
    unfold dep at hj
    rw [ho] at hj
    cases hoj : ops[j]? with
    | none => rw [hoj] at hj; cases hj
    | some oj =>
      rw [hoj] at hj
      simp only [Bool.and_eq_true, beq_iff_eq] at hj
      exact hd j oj d hoj hj.2 hj.1
  · refine hfin T w' hb hs ht fun i d hi => ?_
    unfold dstAt at hi
    cases ho : ops[i]? with
    | none => rw [ho] at hi; cases hi
    | some o =>
      rw [ho] at hi
      exact hd i o d ho (by simpa using hi)
theorem wpIn_region_des {l n : Nat} {P : Program} {Q : Exit → Act → World → Prop} {id : Nat} {T0 : Array Value} {df : List Deferred} {w : World} {ops0 : Array Oper} (ops : Array Oper) (heq : ops0 = ops) (Ds : List Des) (gs : List (Nat × Bool)) (hm : P.follows .mixedOrders = true)
    (hnd : noDefer ops = true) (hok : regOk ops gs T0.size = true) (hgs : gsOk ops gs = true) (hg : ∀ g ∈ gs, ∀ v w, desAt Ds g.1 v w → v = .bool g.2)
    (hstep : AllOps (fun i o => ∀ (T : Array Value) (w' : World), Below w.heap.size w w' → (∀ d, notDst ops d = true → T.getD d undef = T0.getD d undef) →
      (∀ j d, dep ops i j d = true → desAt Ds j (T.getD d undef) w') → OpDoes P o (Act.eval ⟨T, df⟩) w' (desAt Ds i)) ops0.toList 0)
    (hfin : ∀ (T : Array Value) (w' : World), Below w.heap.size w w' → T.size = T0.size → (∀ d, notDst ops d = true → T.getD d undef = T0.getD d undef) → (∀ i d, dstAt ops i d = true → desAt Ds i (T.getD d undef) w') → Q .normal ⟨T, df⟩ w') :
    (Code.region id ops0 true).wpIn (Fence.wide.inRound l) n P Q ⟨T0, df⟩ w :=
  wpIn_region_ops ops heq (desAt Ds) gs hm hnd hok hgs hg (fun i v w w' h hb => (Ds.getD i (isV undef)).2 v w w' h hb) hstep hfin
end Go.Proofs.YtckpdfkobdgjeaaGreatDoor
