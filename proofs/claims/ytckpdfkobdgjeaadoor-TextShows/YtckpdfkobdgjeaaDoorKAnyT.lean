/- A region that draws its order: as text AnyS; the last operation, which all others come ahead of, is a call that may change old memory. -/
import Derived.Test.YtckpdfkobdgjeaaDoorKAnyI
namespace Go.Proofs.YtckpdfkobdgjeaaDoor
open Go.RowKit
theorem wpAny_lastC {P : Program} {ops : Array Oper} {Q : Exit → Act → World → Prop} {W0 : World} {T0 : Array Value} {df : List Deferred} {D : Nat → Value → World → Prop} {gs : List (Nat × Bool)} {c : Nat}
    (hlo : lastOk ops c = true)
    (hok : regOk ops gs T0.size = true) (hg : ∀ g ∈ gs, ∃ o d, ops[g.1]? = some o ∧ o.dst = some d ∧ ∀ v w, D g.1 v w → v = .bool g.2)
    (hD : ∀ i v w w', D i v w → Below w.heap.size w w' → D i v w')
    (hstep : ∀ i o, ops[i]? = some o → i ≠ c → ∀ (T : Array Value) (w : World), Below W0.heap.size W0 w → (∀ d, notDst ops d = true → T.getD d undef = T0.getD d undef) →
      (∀ j oj d, ops[j]? = some oj → oj.dst = some d → waitsFor o j = true → D j (T.getD d undef) w) → OpDoes P o (Act.eval ⟨T, df⟩) w (D i))
    (hlast : ∀ o, ops[c]? = some o → ∀ (T : Array Value) (w : World), Below W0.heap.size W0 w → T.size = T0.size → (∀ d, notDst ops d = true → T.getD d undef = T0.getD d undef) → (∀ i oi d, ops[i]? = some oi → i ≠ c → oi.dst = some d → D i (T.getD d undef) w) →
      ∃ f args, (execOp (Act.eval ⟨T, df⟩) o).run P w = .ok (.enter f args) w ∧ Calls P f args w fun e w' => ∃ v, e = .returned v ∧ ∀ T' : Array Value, T'.size = T0.size → (∀ d, notDst ops d = true → T'.getD d undef = T0.getD d undef) → Q .normal ⟨T', df⟩ w') :
    ∀ (fuel : Nat) (listed : Array Bool) (a : Act) (w : World), unlisted listed ≤ fuel → RInvI ops c W0 T0 df D listed a w → wpAny P .any ops Q fuel listed a w := by
  have hsz := (lastOk_at hlo).1
  intro fuel
  induction fuel with
  | zero =>
    intro listed a w hf I
    have := unlisted_set I.open_
    omega
  | succ fuel ih =>
    intro listed a w hf I
    refine ⟨fun hr => ?_, fun i hi => ?_⟩
    · have h1 := all_listed hok I.inv.size hr c (by omega)
      have h2 := I.open_
      have : c < listed.size := by have := I.inv.size; omega
      simp only [Array.getD, this, dite_true] at h1 h2
      rw [h1] at h2
      cases h2
    obtain ⟨h0, o, ho, hall⟩ := mem_ready.1 hi
    have hcount := unlisted_set h0
    obtain ⟨T, ds⟩ := a
    obtain rfl : ds = df := I.inv.df
    have hat := regOk_at hok ho
    have hwt : ∀ j, waitsFor o j = true → listed.getD j false = true := by
      intro j hw
      simp only [waitsFor, List.any_eq_true, Bool.and_eq_true, beq_iff_eq] at hw
      obtain ⟨e, he, hb, rfl⟩ := hw
      exact hall e (by simpa using he) hb
    have hdep : ∀ j oj d, ops[j]? = some oj → oj.dst = some d → waitsFor o j = true → D j (T.getD d undef) w := fun j oj d hj hd hw => I.inv.got _ oj d hj hd (hwt j hw)
    have hw : Region.wanted o (yielded ops T) = true := by
      unfold Region.wanted
      cases hgd : o.guard with
      | none => rfl
      | some g =>
        obtain ⟨h1, h2⟩ := hat.2.2 g hgd
        obtain ⟨og, d, hog, hdg, hv⟩ := hg g h2
        have := hv _ _ (hdep g.1 og d hog hdg h1)
        have hdl : d < T.size := Nat.lt_of_lt_of_eq ((regOk_at hok hog).2.1 d hdg) I.inv.tsize.symm
        simp [yielded_of hog hdg hdl this]
    unfold wpOp
    simp only [ho, hw, if_true]
    refine Or.inl ?_
    unfold Oper.wp
    by_cases hic : i = c
    · subst hic
      obtain ⟨fn, args, hrun, hcall⟩ := hlast o ho T w I.inv.below I.inv.tsize I.inv.old (fun j oj d hj hne hd => I.inv.got j oj d hj hd
        (closed_all hlo I.closed (fun o' ho' => by rw [ho] at ho'; cases ho'; exact hwt) _ j rfl (by have := (Array.getElem?_eq_some_iff.1 hj).1; omega)))
      rw [hrun]
      refine Calls.mono hcall ?_
      rintro e w' ⟨v, rfl, hq⟩
      have hq' : Q .normal (Act.put ⟨T, ds⟩ o.dst v) w' := by
        cases hd : o.dst with
        | none => exact hq T I.inv.tsize I.inv.old
        | some d0 =>
          refine hq (T.setIfInBounds d0 v) (by simpa using I.inv.tsize) fun d hnd => ?_
          have hne : d0 ≠ d := by
            rintro rfl
            simp only [notDst, Array.all_eq_true_iff_forall_mem] at hnd
            have := hnd o (Array.mem_of_getElem? ho)
            simp [hd] at this
          have := I.inv.old d hnd
          rw [← this]
          simp [Array.getElem?_setIfInBounds_ne hne]
      refine wpAny_done ?_ hq' fuel
      cases hr : Region.ready .any ops (listed.setIfInBounds i true) with
      | nil => rfl
      | cons j js =>
        have hj : j ∈ Region.ready .any ops (listed.setIfInBounds i true) := by rw [hr]; simp
        obtain ⟨g0, oj, hoj, _⟩ := mem_ready.1 hj
        have hjl : j < listed.size := by have := (Array.getElem?_eq_some_iff.1 hoj).1; have := I.inv.size; omega
        by_cases e : i = j
        · subst e
          simp [hjl] at g0
        · rw [getD_set_ne true e] at g0
          have h1 := closed_all hlo I.closed (fun o' ho' => by rw [ho] at ho'; cases ho'; exact hwt) _ j rfl (by have := (Array.getElem?_eq_some_iff.1 hoj).1; omega)
          simp only [Array.getD, hjl, dite_true] at h1 g0
          rw [h1] at g0
          cases g0
    have hdo := hstep i o ho hic T w I.inv.below I.inv.old hdep
    have next : ∀ (v : Value) (w' : World), D i v w' → Below w.heap.size w w' → wpAny P .any ops Q fuel (listed.setIfInBounds i true) (Act.put ⟨T, ds⟩ o.dst v) w' := by
      intro v w' hv hb
      refine ih _ _ _ (by omega) ⟨?_, by rw [getD_set_ne true hic]; exact I.open_, fun j oj hj hl k hk => ?_⟩
      · cases hd : o.dst with
        | none =>
          refine ⟨by simpa using I.inv.size, I.inv.below.trans (hb.mono I.inv.below.size), rfl, I.inv.tsize, I.inv.old, fun j oj d hj hdj hl => ?_⟩
          by_cases e : i = j
          · subst e
            rw [ho] at hj
            cases hj
            rw [hd] at hdj
            cases hdj
          · rw [getD_set_ne false e] at hl
            exact hD _ _ _ _ (I.inv.got j oj d hj hdj hl) hb
        | some d0 =>
          have hd0 : d0 < T.size := Nat.lt_of_lt_of_eq (hat.2.1 d0 hd) I.inv.tsize.symm
          refine ⟨by simpa using I.inv.size, I.inv.below.trans (hb.mono I.inv.below.size), rfl, by simpa [Act.put] using I.inv.tsize, fun d hnd => ?_, fun j oj d hj hdj hl => ?_⟩
          · have hne : d0 ≠ d := by
              rintro rfl
              simp only [notDst, Array.all_eq_true_iff_forall_mem] at hnd
              have := hnd o (Array.mem_of_getElem? ho)
              simp [hd] at this
            have := I.inv.old d hnd
            simp only [Act.put] at this ⊢
            rw [← this]
            simp [Array.getElem?_setIfInBounds_ne hne]
          · by_cases e : i = j
            · subst e
              rw [ho] at hj
              cases hj
              rw [hd] at hdj
              cases hdj
              simpa [Act.put, hd0] using hv
            · have hne : d0 ≠ d := by
                rintro rfl
                exact e (regOk_dst hok ho hj hd hdj)
              rw [getD_set_ne false e] at hl
              have := hD _ _ _ _ (I.inv.got j oj d hj hdj hl) hb
              simp only [Act.put] at this ⊢
              simpa [Array.getElem?_setIfInBounds_ne hne] using this
      · have hset : ∀ m, listed.getD m false = true → (listed.setIfInBounds i true).getD m false = true := fun m hm => by
          by_cases e : i = m
          · subst e
            have : i < listed.size := by have := (Array.getElem?_eq_some_iff.1 ho).1; have := I.inv.size; omega
            simp [this]
          · rw [getD_set_ne false e]; exact hm
        by_cases e : i = j
        · subst e
          rw [ho] at hj
          cases hj
          exact hset k (hwt k hk)
        · rw [getD_set_ne false e] at hl
          exact hset k (I.closed j oj hj hl k hk)
    rcases hdo with ⟨v, w', hrun, hv, hb⟩ | ⟨f, args, hrun, hc⟩
    · rw [hrun]
      exact next v w' hv hb
    · rw [hrun]
      refine Calls.mono hc ?_
      rintro e w' ⟨v, rfl, hv, hb⟩
      exact next v w' hv hb
theorem wp_region_lastC {P : Program} {Q : Exit → Act → World → Prop} {id : Nat} {T0 : Array Value} {df : List Deferred} {w : World} {ops0 : Array Oper} (ops : Array Oper) (heq : ops0 = ops) (Ds : List Des) (c : Nat) (hm : P.follows .mixedOrders = true)
    (hlo : lastOk ops c = true) (hok : regOk ops [] T0.size = true)
    (hstep : AllOps (fun i o => i ≠ c → ∀ (T : Array Value) (w' : World), Below w.heap.size w w' → (∀ d, notDst ops d = true → T.getD d undef = T0.getD d undef) →
      (∀ j d, dep ops i j d = true → desAt Ds j (T.getD d undef) w') → OpDoes P o (Act.eval ⟨T, df⟩) w' (desAt Ds i)) ops0.toList 0)
    (hlast : ∀ o, ops[c]? = some o → ∀ (T : Array Value) (w' : World), Below w.heap.size w w' → T.size = T0.size → (∀ d, notDst ops d = true → T.getD d undef = T0.getD d undef) → (∀ i d, i ≠ c → dstAt ops i d = true → desAt Ds i (T.getD d undef) w') →
      ∃ f args, (execOp (Act.eval ⟨T, df⟩) o).run P w' = .ok (.enter f args) w' ∧ Calls P f args w' fun e w'' => ∃ v, e = .returned v ∧ ∀ T' : Array Value, T'.size = T0.size → (∀ d, notDst ops d = true → T'.getD d undef = T0.getD d undef) → Q .normal ⟨T', df⟩ w'') :
    (Code.region id ops0 true).wp P Q ⟨T0, df⟩ w := by
  have heq := heq.symm
  subst heq
  refine wp_region_any hm (wpAny_lastC (W0 := w.drewN 1) (df := df) (D := desAt Ds) (gs := []) (c := c) hlo hok (fun g hg => by cases hg) (fun i v w w' h hb => (Ds.getD i (isV undef)).2 v w w' h hb) (fun i o ho hic T w' hb ht hd => ?_) (fun o ho T w' hb hs ht hd => ?_) _ _ _ _ ?_ ?_)
  · have := hstep.at i o (by simpa using ho)
    rw [Nat.zero_add] at this
    refine this hic T w' ((below_drewN (Below.refl _ _) 1).trans hb) ht fun j d hj => ?_
    unfold dep at hj
    rw [ho] at hj
    cases hoj : ops[j]? with
    | none => rw [hoj] at hj; cases hj
    | some oj =>
      rw [hoj] at hj
      simp only [Bool.and_eq_true, beq_iff_eq] at hj
      exact hd j oj d hoj hj.2 hj.1
  · refine hlast o ho T w' ((below_drewN (Below.refl _ _) 1).trans hb) hs ht fun i d hic hi => ?_
    unfold dstAt at hi
    cases ho : ops[i]? with
    | none => rw [ho] at hi; cases hi
    | some o =>
      rw [ho] at hi
      exact hd i o d ho hic (by simpa using hi)
  · simp [unlisted]
  · refine ⟨⟨by simp, Below.refl _ _, rfl, rfl, fun _ _ => rfl, fun i o d ho _ hl => by
      have hi : i < ops.size := (Array.getElem?_eq_some_iff.1 ho).1
      simp [hi] at hl⟩, ?_, fun i o ho hl => by
      have hi : i < ops.size := (Array.getElem?_eq_some_iff.1 ho).1
      simp [hi] at hl⟩
    have := (lastOk_at hlo).1
    have hc : c < ops.size := by omega
    simp [hc]
theorem wp_region_storeC {P : Program} {Q : Exit → Act → World → Prop} {id : Nat} {T0 : Array Value} {df : List Deferred} {w : World} {ops0 : Array Oper} (ops : Array Oper) (heq : ops0 = ops) (Ds : List Des) (c : Nat) (hm : P.follows .mixedOrders = true)
    (hlo : lastOk ops c = true) (hok : regOk ops [] T0.size = true)
    (hstep : AllOps (fun i o => ∀ (T : Array Value) (w' : World), Below w.heap.size w w' → T.size = T0.size ∨ i ≠ c → (∀ d, notDst ops d = true → T.getD d undef = T0.getD d undef) →
      (∀ j d, (dep ops i j d || ((i == c) && (j != c) && dstAt ops j d)) = true → desAt Ds j (T.getD d undef) w') →
      if i = c then (∃ f args, (execOp (Act.eval ⟨T, df⟩) o).run P w' = .ok (.enter f args) w' ∧ Calls P f args w' fun e w'' => ∃ v, e = .returned v ∧ ∀ T' : Array Value, T'.size = T0.size → (∀ d, notDst ops d = true → T'.getD d undef = T0.getD d undef) → Q .normal ⟨T', df⟩ w'') else OpDoes P o (Act.eval ⟨T, df⟩) w' (desAt Ds i)) ops0.toList 0) :
    (Code.region id ops0 true).wp P Q ⟨T0, df⟩ w := by
  have heq' := heq.symm
  subst heq'
  have hat : ∀ i o, ops[i]? = some o → _ := fun i o ho => by
    have := hstep.at i o (by simpa using ho)
    rw [Nat.zero_add] at this
    exact this
  have key : ∀ (l : List Oper) (k : Nat), (∀ i o, l[i]? = some o → ops[k + i]? = some o) → AllOps (fun i o => i ≠ c → ∀ (T : Array Value) (w' : World), Below w.heap.size w w' → (∀ d, notDst ops d = true → T.getD d undef = T0.getD d undef) →
      (∀ j d, dep ops i j d = true → desAt Ds j (T.getD d undef) w') → OpDoes P o (Act.eval ⟨T, df⟩) w' (desAt Ds i)) l k := by
    intro l
    induction l with
    | nil => intro k _; exact trivial
    | cons o l ih =>
      intro k hk
      refine ⟨fun hic T w' hb hl hd => ?_, ih (k + 1) fun i o' h => by rw [show k + 1 + i = k + (i + 1) from by omega]; exact hk (i + 1) o' (by simpa using h)⟩
      have := hat k o (by have := hk 0 o rfl; simpa using this) T w' hb (Or.inr hic) hl (fun j d hj => by
        rw [beq_eq_false_iff_ne.2 hic] at hj
        simp only [Bool.false_and, Bool.or_false] at hj
        exact hd j d hj)
      rwa [if_neg hic] at this
  refine wp_region_lastC ops rfl Ds c hm hlo hok (key ops.toList 0 fun i o h => by rw [Nat.zero_add]; simpa using h) fun o ho T w' hb hs hl hd => ?_
  have := hat c o ho T w' hb (Or.inl hs) hl (fun j d hj => by
    by_cases hjc : j = c
    · subst hjc
      exfalso
      simp only [beq_self_eq_true, bne_self_eq_false, Bool.and_false, Bool.false_and, Bool.or_false] at hj
      unfold dep at hj
      rw [ho] at hj
      simp only [Bool.and_eq_true] at hj
      have h1 := (regOk_at hok ho).1
      have h2 := hj.1
      simp only [waitsFor, List.any_eq_true, Bool.and_eq_true, beq_iff_eq] at h2
      obtain ⟨e, he, hbd, e2⟩ := h2
      have := h1 e (by simpa using he) hbd
      omega
    · refine hd j d hjc ?_
      simp only [Bool.or_eq_true, Bool.and_eq_true] at hj
      rcases hj with hj | hj
      · unfold dep at hj
        rw [ho] at hj
        unfold dstAt
        cases hoj : ops[j]? with
        | none => rw [hoj] at hj; cases hj
        | some oj => rw [hoj] at hj; simp only [Bool.and_eq_true] at hj; exact hj.2
      · exact hj.2)
  rwa [if_pos rfl] at this
end Go.Proofs.YtckpdfkobdgjeaaDoor
