/- A region that draws its order, as text AnyD; a slot may be read by operations that come ahead of the one that writes it. -/
import Derived.Test.YtckpdfkobdgjeaaDoorKAnyD
namespace Go.Proofs.YtckpdfkobdgjeaaDoor
open Go.RowKit
def ahd (ops : Array Oper) (i d : Nat) : Bool := (List.range ops.size).all fun j => match ops[j]? with
  | some o => o.dst != some d || (j == i) || (behindTo ops i ops.size).contains j
  | none => true
theorem ahd_at {ops : Array Oper} {i d : Nat} (h : ahd ops i d = true) {j : Nat} {o : Oper} (hj : ops[j]? = some o) (hd : o.dst = some d) : j = i ∨ j ∈ behindTo ops i ops.size := by
  have h1 := List.all_eq_true.1 h j (List.mem_range.2 (Array.getElem?_eq_some_iff.1 hj).1)
  rw [hj] at h1
  simp only [hd, bne_self_eq_false, Bool.false_or, Bool.or_eq_true, beq_iff_eq] at h1
  rcases h1 with h1 | h1
  · exact Or.inl h1
  · exact Or.inr (List.contains_iff_mem.1 h1)
theorem notDst_not {ops : Array Oper} {d : Nat} (h : notDst ops d = true) {i : Nat} {o : Oper} (ho : ops[i]? = some o) (hd : o.dst = some d) {p : Prop} : p := by
  simp only [notDst, Array.all_eq_true_iff_forall_mem] at h
  have := h o (Array.mem_of_getElem? ho)
  simp [hd] at this
structure RInvE (ops : Array Oper) (cs : List (Nat × List Nat)) (B0 : Nat) (W0 : World) (T0 : Array Value) (df : List Deferred) (D : Nat → Value → World → Prop) (listed : Array Bool) (a : Act) (w : World) : Prop where
  size : listed.size = ops.size
  below : Below B0 W0 w
  belowS : (∀ c dead, dd cs c = some dead → listed.getD c false = false) → Below W0.heap.size W0 w
  df : a.defers = df
  tsize : a.tmps.size = T0.size
  old : ∀ d, (∀ i o, ops[i]? = some o → o.dst = some d → listed.getD i false = false) → a.tmps.getD d undef = T0.getD d undef
  got : ∀ i o, ops[i]? = some o → (o.dst ≠ none ∨ dd cs i ≠ none) → listed.getD i false = true → ¬ spoilt cs listed i → D i (slotV o a.tmps) w
  closed : ∀ i o, ops[i]? = some o → listed.getD i false = true → ∀ j, waitsFor o j = true → listed.getD j false = true
theorem wpAny_chgE {P : Program} {ops : Array Oper} {Q : Exit → Act → World → Prop} {W0 : World} {T0 : Array Value} {df : List Deferred} {D : Nat → Value → World → Prop} {gs : List (Nat × Bool)} {cs : List (Nat × List Nat)} {B0 : Nat} (hB0 : B0 ≤ W0.heap.size)
    (hok : regOk ops gs T0.size = true) (hg : ∀ g ∈ gs, ∃ o d, ops[g.1]? = some o ∧ o.dst = some d ∧ ∀ v w, D g.1 v w → v = .bool g.2) (hgl : ∀ g ∈ gs, ∀ i, lookB ops cs i g.1 = true)
    (hD : ∀ i v w w', D i v w → Below w.heap.size w w' → D i v w')
    (hstep : ∀ i o, ops[i]? = some o → ∀ (T : Array Value) (w : World), (okW ops cs i = true → Below W0.heap.size W0 w) → Below B0 W0 w → (∀ d, ahd ops i d = true → T.getD d undef = T0.getD d undef) →
      (∀ j oj d, ops[j]? = some oj → oj.dst = some d → waitsFor o j = true → lookB ops cs i j = true → D j (T.getD d undef) w) → OwedB P ops o (Act.eval ⟨T, df⟩) B0 W0 w D cs i)
    (hfin : ∀ (T : Array Value) (w : World), Below B0 W0 w → T.size = T0.size → (∀ d, notDst ops d = true → T.getD d undef = T0.getD d undef) → (∀ i o, ops[i]? = some o → (o.dst ≠ none ∨ dd cs i ≠ none) → spoiltB cs i = false → D i (slotV o T) w) → Q .normal ⟨T, df⟩ w) :
    ∀ (fuel : Nat) (listed : Array Bool) (a : Act) (w : World), unlisted listed ≤ fuel → RInvE ops cs B0 W0 T0 df D listed a w → wpAny P .any ops Q fuel listed a w := by
  have fin : ∀ (listed : Array Bool) (a : Act) (w : World), RInvE ops cs B0 W0 T0 df D listed a w → Region.ready .any ops listed = [] → Q .normal a w := by
    rintro listed ⟨T, ds⟩ w I hr
    obtain rfl : ds = df := I.df
    refine hfin T w I.below I.tsize (fun d hnd => I.old d fun i o ho hd => notDst_not hnd ho hd) fun i o ho hd hdd => I.got i o ho hd (all_listed hok I.size hr i (Array.getElem?_eq_some_iff.1 ho).1) ?_
    rintro ⟨c, dead, hx, _, hxi⟩
    have : spoiltB cs i = true := List.any_eq_true.2 ⟨(c, dead), dd_mem hx, hxi⟩
    rw [hdd] at this
    cases this
  intro fuel
  induction fuel with
  | zero =>
    intro listed a w hf I
    have hr : Region.ready .any ops listed = [] := by
      cases hr : Region.ready .any ops listed with
      | nil => rfl
      | cons i l =>
        have : i ∈ Region.ready .any ops listed := by rw [hr]; simp
        have := unlisted_set (mem_ready.1 this).1
        omega
    exact ⟨hr, fin listed a w I hr⟩
  | succ fuel ih =>
    intro listed a w hf I
    refine ⟨fin listed a w I, fun i hi => ?_⟩
    obtain ⟨h0, o, ho, hall⟩ := mem_ready.1 hi
    have hil : i < listed.size := by have := (Array.getElem?_eq_some_iff.1 ho).1; have := I.size; omega
    have h0' : listed.getD i false = false := by simpa [hil] using h0
    have hcount := unlisted_set h0
    obtain ⟨T, ds⟩ := a
    obtain rfl : ds = df := I.df
    have hat := regOk_at hok ho
    have hwt : ∀ j, waitsFor o j = true → listed.getD j false = true := by
      intro j hw
      simp only [waitsFor, List.any_eq_true, Bool.and_eq_true, beq_iff_eq] at hw
      obtain ⟨e, he, hb, rfl⟩ := hw
      exact hall e (by simpa using he) hb
    have hdep : ∀ j oj d, ops[j]? = some oj → oj.dst = some d → waitsFor o j = true → lookB ops cs i j = true → D j (T.getD d undef) w := by
      intro j oj d hj hd hw hk
      have hgot : slotV oj T = T.getD d undef := by unfold slotV; rw [hd]
      rw [← hgot]
      refine I.got _ oj hj (Or.inl (by rw [hd]; simp)) (hwt j hw) ?_
      rintro ⟨c, dead, hx, hc, hdd⟩
      rcases lookB_at hk hx hdd with e | e
      · subst e
        rw [hc] at h0'
        cases h0'
      · rw [behind_listed I.closed e hc] at h0'
        cases h0'
    have hbs : okW ops cs i = true → Below W0.heap.size W0 w := fun hk => I.belowS fun c dead hx => by
      have h1 := List.all_eq_true.1 hk (c, dead) (dd_mem hx)
      simp only [Bool.or_eq_true, beq_iff_eq] at h1
      cases hc : listed.getD c false with
      | false => rfl
      | true =>
        rcases h1 with e | e
        · subst e
          rw [hc] at h0'
          cases h0'
        · rw [behind_listed I.closed (List.contains_iff_mem.1 e) hc] at h0'
          cases h0'
    have hw : Region.wanted o (yielded ops T) = true := by
      unfold Region.wanted
      cases hgd : o.guard with
      | none => rfl
      | some g =>
        obtain ⟨h1, h2⟩ := hat.2.2 g hgd
        obtain ⟨og, d, hog, hdg, hv⟩ := hg g h2
        have := hv _ _ (hdep g.1 og d hog hdg h1 (hgl g h2 i))
        have hdl : d < T.size := Nat.lt_of_lt_of_eq ((regOk_at hok hog).2.1 d hdg) I.tsize.symm
        simp [yielded_of hog hdg hdl this]
    have hset : ∀ m, listed.getD m false = true → (listed.setIfInBounds i true).getD m false = true := fun m hm => by
      by_cases e : i = m
      · subst e
        simp [hil]
      · rw [getD_set_ne false e]; exact hm
    have hclosed : ∀ j oj, ops[j]? = some oj → (listed.setIfInBounds i true).getD j false = true → ∀ k, waitsFor oj k = true → (listed.setIfInBounds i true).getD k false = true := by
      intro j oj hj hl k hk
      by_cases e : i = j
      · subst e
        rw [ho] at hj
        cases hj
        exact hset k (hwt k hk)
      · rw [getD_set_ne false e] at hl
        exact hset k (I.closed j oj hj hl k hk)
    have next : ∀ (v : Value) (w' : World), D i v w' → (o.dst = none → dd cs i ≠ none → v = undef) → Below B0 W0 w' → ((∀ c dead, dd cs c = some dead → (listed.setIfInBounds i true).getD c false = false) → Below W0.heap.size W0 w') → (∀ j, j ≠ i → (∀ dead, dd cs i = some dead → dead.contains j = false) → listed.getD j false = true → ∀ u, D j u w → D j u w') → wpAny P .any ops Q fuel (listed.setIfInBounds i true) (Act.put ⟨T, ds⟩ o.dst v) w' := by
      intro v w' hv hvu hb hbS hkeep
      refine ih _ _ _ (by omega) ?_
      have got' : ∀ j oj, ops[j]? = some oj → (oj.dst ≠ none ∨ dd cs j ≠ none) → i ≠ j → (listed.setIfInBounds i true).getD j false = true → ¬ spoilt cs (listed.setIfInBounds i true) j → D j (slotV oj T) w' := by
        intro j oj hj hdj e hl hdd
        rw [getD_set_ne false e] at hl
        refine hkeep j (Ne.symm e) (fun dead hx => ?_) hl _ (I.got j oj hj hdj hl ?_)
        · cases hc : dead.contains j with
          | false => rfl
          | true => exact absurd ⟨i, dead, hx, by simp [hil], hc⟩ hdd
        · rintro ⟨c, dead, hx, h1, h2⟩
          exact hdd ⟨c, dead, hx, hset _ h1, h2⟩
      cases hd : o.dst with
      | none =>
        refine ⟨by simpa using I.size, hb, hbS, rfl, I.tsize, fun d hnd => I.old d (fun j oj hj hdj => by
          have := hnd j oj hj hdj
          by_cases e : i = j
          · subst e; exact h0'
          · rwa [getD_set_ne false e] at this), fun j oj hj hdj hl hdd => ?_, hclosed⟩
        by_cases e : i = j
        · subst e
          rw [ho] at hj
          cases hj
          have hdn : dd cs i ≠ none := hdj.resolve_left (fun h => h hd)
          have : slotV o (Act.put ⟨T, ds⟩ none v).tmps = undef := by unfold slotV; rw [hd]
          rw [this, ← hvu hd hdn]
          exact hv
        · exact got' j oj hj hdj e hl hdd
      | some d0 =>
        have hd0 : d0 < T.size := Nat.lt_of_lt_of_eq (hat.2.1 d0 hd) I.tsize.symm
        refine ⟨by simpa using I.size, hb, hbS, rfl, by simpa [Act.put] using I.tsize, fun d hnd => ?_, fun j oj hj hdj hl hdd => ?_, hclosed⟩
        · have hne : d0 ≠ d := by
            rintro rfl
            have := hnd i o ho hd
            simp [hil] at this
          have := I.old d (fun j oj hj hdj => by
            have := hnd j oj hj hdj
            by_cases e : i = j
            · subst e; exact h0'
            · rwa [getD_set_ne false e] at this)
          simp only [Act.put] at this ⊢
          rw [← this]
          simp [Array.getElem?_setIfInBounds_ne hne]
        · by_cases e : i = j
          · subst e
            rw [ho] at hj
            cases hj
            unfold slotV
            rw [hd]
            simpa [Act.put, hd0] using hv
          · have := got' j oj hj hdj e hl hdd
            unfold slotV at this ⊢
            cases hjd : oj.dst with
            | none => rw [hjd] at this; exact this
            | some d =>
              have hne : d0 ≠ d := by
                rintro rfl
                exact e (regOk_dst hok ho hj hd hjd)
              rw [hjd] at this
              simp only [Act.put] at this ⊢
              simpa [Array.getElem?_setIfInBounds_ne hne] using this
    unfold wpOp
    simp only [ho, hw, if_true]
    refine Or.inl ?_
    unfold Oper.wp
    have hdo := hstep i o ho T w hbs I.below (fun d hd => I.old d fun j oj hj hdj => by
      cases hl : listed.getD j false with
      | false => rfl
      | true =>
        rcases ahd_at hd hj hdj with e | e
        · subst e
          rw [hl] at h0'
          cases h0'
        · rw [behind_listed I.closed e hl] at h0'
          cases h0') hdep
    unfold OwedB at hdo
    cases hic : dd cs i with
    | some dead =>
      rw [hic] at hdo
      obtain ⟨v, w', hrun, hvu, hv, hb, hk⟩ := hdo
      have hn := next v w' hv (fun h _ => hvu h) hb (fun hnone => by have := hnone i dead hic; simp [hil] at this) (fun j hj hdd hlj u hu => hk j hj (hdd dead hic) (by
        cases hbb : (behindTo ops i ops.size).contains j with
        | false => rfl
        | true =>
          have := behind_listed I.closed (List.contains_iff_mem.1 hbb) hlj
          rw [this] at h0'
          cases h0') u hu)
      rcases hrun with hrun | ⟨hrun, rfl⟩
      · rw [hrun]
        exact hn
      · rw [hrun]
        exact hn
    | none =>
      rw [hic] at hdo
      rcases hdo with ⟨v, w', hrun, hv, hb⟩ | ⟨f, args, hrun, hc⟩
      · rw [hrun]
        exact next v w' hv (fun _ h => absurd hic h) (I.below.trans (hb.mono (Nat.le_trans hB0 I.below.size))) (fun hnone => by
          have hS := I.belowS fun c dead hx => by
            have h1 := hnone c dead hx
            by_cases e : i = c
            · subst e; rw [hic] at hx; cases hx
            · rwa [getD_set_ne false e] at h1
          exact hS.trans (hb.mono hS.size)) (fun j _ _ _ u hu => hD j u w w' hu hb)
      · rw [hrun]
        refine Calls.mono hc ?_
        rintro e w' ⟨v, rfl, hv, hb⟩
        exact next v w' hv (fun _ h => absurd hic h) (I.below.trans (hb.mono (Nat.le_trans hB0 I.below.size))) (fun hnone => by
          have hS := I.belowS fun c dead hx => by
            have h1 := hnone c dead hx
            by_cases e : i = c
            · subst e; rw [hic] at hx; cases hx
            · rwa [getD_set_ne false e] at h1
          exact hS.trans (hb.mono hS.size)) (fun j _ _ _ u hu => hD j u w w' hu hb)
theorem wp_region_chgE {P : Program} {Q : Exit → Act → World → Prop} {id : Nat} {T0 : Array Value} {df : List Deferred} {w : World} {ops0 : Array Oper} (ops : Array Oper) (heq : ops0 = ops) (Ds : List Des) (gs : List (Nat × Bool)) (cs : List (Nat × List Nat)) (B0 : Nat) (hB0 : B0 ≤ w.heap.size) (hm : P.follows .mixedOrders = true)
    (hok : regOk ops gs T0.size = true) (hgs : gsOk ops gs = true) (hgc : (gs.all fun g => !spoiltB cs g.1) = true) (hg : ∀ g ∈ gs, ∀ v w, desAt Ds g.1 v w → v = .bool g.2)
    (hstep : AllOps (fun i o => ∀ (T : Array Value) (w' : World), (okW ops cs i = true → Below w.heap.size w w') → Below B0 w w' → (∀ d, ahd ops i d = true → T.getD d undef = T0.getD d undef) →
      (∀ j d, (dep ops i j d && lookB ops cs i j) = true → desAt Ds j (T.getD d undef) w') → OwedB P ops o (Act.eval ⟨T, df⟩) B0 w w' (desAt Ds) cs i) ops0.toList 0)
    (hfin : ∀ (T : Array Value) (w' : World), Below B0 w w' → T.size = T0.size → (∀ d, notDst ops d = true → T.getD d undef = T0.getD d undef) → (∀ i d, spoiltB cs i = false → dstAt ops i d = true → desAt Ds i (T.getD d undef) w') → (∀ c, noDst ops c = true → (dd cs c).isSome = true → spoiltB cs c = false → desAt Ds c undef w') → Q .normal ⟨T, df⟩ w') :
    (Code.region id ops0 true).wp P Q ⟨T0, df⟩ w := by
  have heq := heq.symm
  subst heq
  have hdep : ∀ (T : Array Value) (w' : World) (i : Nat) (o : Oper), ops[i]? = some o → (∀ j oj d, ops[j]? = some oj → oj.dst = some d → waitsFor o j = true → lookB ops cs i j = true → desAt Ds j (T.getD d undef) w') → ∀ j d, (dep ops i j d && lookB ops cs i j) = true → desAt Ds j (T.getD d undef) w' := by
    intro T w' i o ho hd j d hjj
    rw [Bool.and_eq_true] at hjj
    obtain ⟨hj, hk⟩ := hjj
    unfold dep at hj
    rw [ho] at hj
    cases hoj : ops[j]? with
    | none => rw [hoj] at hj; cases hj
    | some oj =>
      rw [hoj] at hj
      simp only [Bool.and_eq_true, beq_iff_eq] at hj
      exact hd j oj d hoj hj.2 hj.1 hk
  refine wp_region_any hm (wpAny_chgE (W0 := w.drewN 1) (df := df) (D := desAt Ds) (gs := gs) (cs := cs) (B0 := B0) hB0 hok (fun g hgm => ?_) (fun g hgm i => ?_) (fun i v w w' h hb => (Ds.getD i (isV undef)).2 v w w' h hb) (fun i o ho T w' hbS hb ht hd => ?_) (fun T w' hb hs ht hd => ?_) _ _ _ _ ?_ ?_)
  · have := List.all_eq_true.1 hgs g hgm
    cases ho : ops[g.1]? with
    | none => rw [ho] at this; cases this
    | some o =>
      rw [ho] at this
      obtain ⟨d, hd⟩ := Option.isSome_iff_exists.1 this
      exact ⟨o, d, rfl, hd, hg g hgm⟩
  · have h1 := List.all_eq_true.1 hgc g hgm
    refine List.all_eq_true.2 fun x hx => ?_
    cases hc : x.2.contains g.1 with
    | false => rfl
    | true =>
      have : spoiltB cs g.1 = true := List.any_eq_true.2 ⟨x, hx, hc⟩
      rw [this] at h1
      cases h1
  · have := hstep.at i o (by simpa using ho)
    rw [Nat.zero_add] at this
    have h := this T w' (fun hk => (_root_.Go.below_drewN (Below.refl _ _) 1).trans (hbS hk)) ((_root_.Go.below_drewN (Below.refl _ _) 1).trans hb) ht (hdep T w' i o ho hd)
    unfold OwedB at h ⊢
    cases hic : dd cs i with
    | none => rw [hic] at h; exact h
    | some dead =>
      rw [hic] at h
      obtain ⟨v, w'', h1, h1', h2, h3, h4⟩ := h
      exact ⟨v, w'', h1, h1', h2, ⟨h3.os, h3.tape, h3.output, h3.size, h3.block⟩, h4⟩
  · refine hfin T w' ((_root_.Go.below_drewN (Below.refl _ _) 1).trans hb) hs ht (fun i d hdd hi => ?_) (fun c hn hs hdd => ?_)
    · unfold dstAt at hi
      cases ho : ops[i]? with
      | none => rw [ho] at hi; cases hi
      | some o =>
        rw [ho] at hi
        have hdo : o.dst = some d := by simpa using hi
        have := hd i o ho (Or.inl (by rw [hdo]; simp)) hdd
        unfold slotV at this
        rw [hdo] at this
        exact this
    · unfold noDst at hn
      cases ho : ops[c]? with
      | none => rw [ho] at hn; cases hn
      | some o =>
        rw [ho] at hn
        have hdo : o.dst = none := by simpa using hn
        have := hd c o ho (Or.inr (by intro h; rw [h] at hs; cases hs)) hdd
        unfold slotV at this
        rw [hdo] at this
        exact this
  · simp [unlisted]
  · exact ⟨by simp, Below.refl _ _, fun _ => Below.refl _ _, rfl, rfl, fun _ _ => rfl, fun i o ho _ hl => by
      have hi : i < ops.size := (Array.getElem?_eq_some_iff.1 ho).1
      simp [hi] at hl, fun i o ho hl => by
      have hi : i < ops.size := (Array.getElem?_eq_some_iff.1 ho).1
      simp [hi] at hl⟩
end Go.Proofs.YtckpdfkobdgjeaaDoor
