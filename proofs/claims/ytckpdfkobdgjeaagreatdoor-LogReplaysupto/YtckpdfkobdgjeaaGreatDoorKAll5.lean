/- Several texts in one: BookB, AnyE, OwnA, OwnB, OwnC, LogA, LogB, LogC, LogD, BookC. -/
import Derived.Test.YtckpdfkobdgjeaaGreatDoorKAll4
import Derived.Deep.AppendLies
import Derived.Deep.DeepCutAuto
import Derived.Deep.LoopGhost
import Derived.Lib.AppendZeros
import Derived.Test.YtckpdfkobdgjeaaGreatDoorKAll3
import Derived.Laws.BytesArg
namespace Go.Proofs.YtckpdfkobdgjeaaGreatDoor
open Go.RowKit
structure Made (Z W3 : World) (L S B : Nat) (aa : Option Addr) (bn k3 : Nat) (b' : BL) (X : Bk) (g9 k9 : Nat) : Prop where
  own : OwnBks Z S (.slice (some ⟨g9, 0, none⟩) (bn + 1) k9) (b' ++ [X])
  len : bn = b'.length
  ne : g9 ≠ B
  low : S ≤ g9
  blk : ∀ k, k < W3.heap.size → some k ≠ (Value.slice aa bn k3).ownBlock → Z.heap[k]? = W3.heap[k]?
  size : W3.heap.size ≤ Z.heap.size
  offP : ∀ i, i < (b' ++ [X]).length → 0 < (bk (b' ++ [X]) i).rq.pn → ∀ g off, (bk (b' ++ [X]) i).rq.pa = some ⟨g, off, none⟩ → L ≤ g ∧ g ≠ B
  offB : ∀ i, i < (b' ++ [X]).length → 0 < (bk (b' ++ [X]) i).bn → ∀ g off, (bk (b' ++ [X]) i).ba = some ⟨g, off, none⟩ → L ≤ g ∧ g ≠ B
theorem Made.later {Z Y W3 : World} {L S B : Nat} {aa : Option Addr} {bn k3 : Nat} {b' : BL} {X : Bk} {g9 k9 : Nat} (h : Made Z W3 L S B aa bn k3 b' X g9 k9) (hb : Below Z.heap.size Z Y) : Made Y W3 L S B aa bn k3 b' X g9 k9 :=
  ⟨h.own.later hb, h.len, h.ne, h.low, fun k hk hk2 => (hb.block k (by have := h.size; omega)).trans (h.blk k hk hk2), Nat.le_trans h.size hb.size, h.offP, h.offB⟩
theorem made_by (w' W3 : World) (L S B : Nat) (aa : Option Addr) (bn k3 : Nat) (b' : BL) (X : Bk) (gL : Nat) (ty : TypeId) (hO : OwnBks W3 S (.slice aa bn k3) b') (hb : Below W3.heap.size W3 w')
    (hL : w'.heap[gL]? = some (.cells #[.int .i64 X.id, .int .i64 X.rq.queue, .int .i64 X.rq.fr, .int .i64 X.rq.un, .int .i64 X.rq.kind, .slice X.rq.pa X.rq.pn X.rq.pc, .slice X.ba X.bn X.bc] 60 (0, 0)))
    (hbn : bn = b'.length) (h12 : bn ≤ 12) (hS : S ≤ W3.heap.size) (hB : B < W3.heap.size) (hr : RunsIn w' X.rq.pa X.rq.pn X.rq.pc X.rq.ps)
    (hfB : ∀ i, i < b'.length → (0 < (bk b' i).rq.pn → ∀ g off, (bk b' i).rq.pa = some ⟨g, off, none⟩ → L ≤ g ∧ g ≠ B) ∧ (0 < (bk b' i).bn → ∀ g off, (bk b' i).ba = some ⟨g, off, none⟩ → L ≤ g ∧ g ≠ B)) (hLS : L ≤ S)
    (hpn : 0 < X.rq.pn → ∀ b off, X.rq.pa = some ⟨b, off, none⟩ → W3.heap.size ≤ b) (hrow : ∀ g, (Value.slice aa bn k3).ownBlock = some g → g ≠ B ∧ g < W3.heap.size)
    (hXb : 0 < X.bn → ∀ b off, X.ba = some ⟨b, off, none⟩ → (L ≤ b ∧ b ≠ B) ∧ b < W3.heap.size ∧ (Value.slice aa bn k3).ownBlock ≠ some b) (hbt : RunsIn w' X.ba X.bn X.bc X.bs) :
    ∃ g9 k9 w'', (Builtin.append_ #[38, 38] ty #[.slice aa bn k3, .slice (some ⟨gL, 0, none⟩) 1 1]).run Tryz.prog w' = .ok (.slice (some ⟨g9, 0, none⟩) (bn + 1) k9) w'' ∧ Made w'' W3 L S B aa bn k3 b' X g9 k9 ∧ Below S W3 w'' := by
  subst hbn
  obtain ⟨i0, hi, e⟩ := Option.map_eq_some_iff.1 infoBook
  simp only [Prod.mk.injEq] at e
  obtain ⟨e1, e2, e3⟩ := e
  have hO' := hO.later hb
  obtain ⟨g9, k9, w'', h1, h2, h3, h4, h5⟩ := run_append_lies w' 38 ty S 60 i0 _ 7 88 Tryz.underlying38 hi e1 e2 e3 (by rfl) (by omega) (.slice aa b'.length k3) b'.length (bkCells b') hO'.row ⟨gL, 0, none⟩ 1 1 (bkCell X) (by simp [bkCell])
    (fun j u hu => by rw [Addr.add_lit, Nat.zero_add, cell_of_row w' gL j _ _ _ hL]; simpa [bkCell] using hu) (fun u hu => bkCells_one [X] u (by simpa [bkCells] using hu)) (by omega) (by simp only [maxLen]; omega) (by omega) (Nat.le_trans hS hb.size) w'.heap.size rfl
  have hlow := h2.lt g9 rfl
  have hg9 : (Value.slice aa b'.length k3).ownBlock = some g9 ∨ w'.heap.size ≤ g9 := by
    rcases h4 with h4 | h4
    · exact Or.inl h4
    · exact Or.inr (by omega)
  have hkeep : ∀ {a : Option Addr} {n cap : Nat} {l : RunL}, RunsIn w' a n cap l → (0 < n → ∀ b off, a = some ⟨b, off, none⟩ → (Value.slice aa b'.length k3).ownBlock ≠ some b) → RunsIn w'' a n cap l := fun h hn => h.of_away fun hp b off e => h3.block b (h.lt hp e) (fun e2 => hn hp b off e e2.symm)
  have hsz := hb.size
  have hXp : 0 < X.rq.pn → ∀ b off, X.rq.pa = some ⟨b, off, none⟩ → (Value.slice aa b'.length k3).ownBlock ≠ some b := fun hp b off e e2 => by have := hpn hp b off e; have := (hrow b e2).2; omega
  refine ⟨g9, k9, w'', h1, ⟨⟨?_, fun i hi => ?_, fun i hi => ?_, fun i hi hp g off e e2 => ?_, fun i hi hp g off e e2 => ?_⟩, rfl, ?_, hlow.1, fun k hk hk2 => ?_, Nat.le_trans hsz h3.size, fun i hi => ?_, fun i hi => ?_⟩, ?_⟩
  · rw [List.length_append, List.length_singleton, bkCells_app]
    have : bkCells [X] = bkCell X := by simp [bkCells]
    rw [this]
    exact h2
  · by_cases e : i < b'.length
    · rw [bk_app e]; exact hkeep (hO'.rqs i e) (hO'.farP i e)
    · obtain rfl : i = b'.length := by simp at hi; omega
      rw [bk_end]; exact hkeep hr hXp
  · by_cases e : i < b'.length
    · rw [bk_app e]; exact hkeep (hO'.bites i e) (hO'.farB i e)
    · obtain rfl : i = b'.length := by simp at hi; omega
      rw [bk_end]; exact hkeep hbt (fun hp b off e => (hXb hp b off e).2.2)
  · have e2 : g9 = g := by simpa [Value.ownBlock] using e2
    subst e2
    by_cases e3 : i < b'.length
    · rw [bk_app e3] at hp e
      rcases hg9 with h | h
      · exact hO'.farP i e3 hp g9 off e h
      · have := RunsIn.lt (hO'.rqs i e3) hp e; omega
    · obtain rfl : i = b'.length := by simp at hi; omega
      rw [bk_end] at hp e
      rcases hg9 with h | h
      · exact hXp hp g9 off e h
      · have := hr.lt hp e; omega
  · have e2 : g9 = g := by simpa [Value.ownBlock] using e2
    subst e2
    by_cases e3 : i < b'.length
    · rw [bk_app e3] at hp e
      rcases hg9 with h | h
      · exact hO'.farB i e3 hp g9 off e h
      · have := (hO'.bites i e3).lt hp e; omega
    · obtain rfl : i = b'.length := by simp at hi; omega
      rw [bk_end] at hp e
      rcases hg9 with h | h
      · exact (hXb hp g9 off e).2.2 h
      · have := hbt.lt hp e; omega
  · rcases hg9 with h | h
    · exact (hrow g9 h).1
    · omega
  · rw [h3.block k (by omega) hk2]
    exact hb.block k hk
  · by_cases e : i < b'.length
    · rw [bk_app e]; exact (hfB i e).1
    · obtain rfl : i = b'.length := by simp at hi; omega
      rw [bk_end]
      intro hp g off e2
      have := hpn hp g off e2
      omega
  · by_cases e : i < b'.length
    · rw [bk_app e]; exact (hfB i e).2
    · obtain rfl : i = b'.length := by simp at hi; omega
      rw [bk_end]
      exact fun hp g off e2 => (hXb hp g off e2).1
  · exact (hb.mono hS).grown h3 (Nat.le_trans hS hsz) (fun k e => (hO'.row.lt k e).1)
structure Made2 (Z W3 : World) (L S B : Nat) (aa : Option Addr) (bn k3 : Nat) (b' : BL) (X : Bk) (g9 k9 : Nat) (c n : Int) (tv : Value) : Prop where
  own : OwnBks Z S (.slice (some ⟨g9, 0, none⟩) (bn + 1) k9) (b' ++ [X])
  len : bn = b'.length
  low : S ≤ g9
  box : StBox Z B (.int .i64 c) (.int .i64 n) tv (.slice (some ⟨g9, 0, none⟩) (bn + 1) k9)
  blk : ∀ k, k < W3.heap.size → k ≠ B → some k ≠ (Value.slice aa bn k3).ownBlock → Z.heap[k]? = W3.heap[k]?
  size : W3.heap.size ≤ Z.heap.size
  ne : g9 ≠ B
  offP : ∀ i, i < (b' ++ [X]).length → 0 < (bk (b' ++ [X]) i).rq.pn → ∀ g off, (bk (b' ++ [X]) i).rq.pa = some ⟨g, off, none⟩ → L ≤ g ∧ g ≠ B
  offB : ∀ i, i < (b' ++ [X]).length → 0 < (bk (b' ++ [X]) i).bn → ∀ g off, (bk (b' ++ [X]) i).ba = some ⟨g, off, none⟩ → L ≤ g ∧ g ≠ B
theorem Made2.later {Z Y W3 : World} {L S B : Nat} {aa : Option Addr} {bn k3 : Nat} {b' : BL} {X : Bk} {g9 k9 : Nat} {c n : Int} {tv : Value} (h : Made2 Z W3 L S B aa bn k3 b' X g9 k9 c n tv) (hb : Below Z.heap.size Z Y) : Made2 Y W3 L S B aa bn k3 b' X g9 k9 c n tv :=
  ⟨h.own.later hb, h.len, h.low, h.box.later hb, fun k hk hk2 hk3 => (hb.block k (by have := h.size; omega)).trans (h.blk k hk hk2 hk3), Nat.le_trans h.size hb.size, h.ne, h.offP, h.offB⟩
theorem Made.store {Z W3 : World} {L S B : Nat} {aa : Option Addr} {bn k3 : Nat} {b' : BL} {X : Bk} {g9 k9 : Nat} (h : Made Z W3 L S B aa bn k3 b' X g9 k9) (hb : Below S W3 Z) {c n : Int} {tv : Value} (hx : StBox W3 B (.int .i64 c) (.int .i64 n) tv (.slice aa bn k3) ∧ some B ≠ (Value.slice aa bn k3).ownBlock) (hB : S ≤ B ∧ B < W3.heap.size) :
    Made2 (Z.setCell ⟨B, 3, none⟩ (.slice (some ⟨g9, 0, none⟩) (bn + 1) k9)) W3 L S B aa bn k3 b' X g9 k9 c n tv ∧ Z.cell? ⟨B, 3, none⟩ = some (.slice aa bn k3) ∧ Z.frozen? ⟨B, 3, none⟩ = false ∧ Below S W3 (Z.setCell ⟨B, 3, none⟩ (.slice (some ⟨g9, 0, none⟩) (bn + 1) k9)) := by
  have hz : StBox Z B (.int .i64 c) (.int .i64 n) tv (.slice aa bn k3) := (h.blk B hB.2 hx.2).trans hx.1
  refine ⟨⟨?_, h.len, h.low, ?_, fun k hk hk2 hk3 => ?_, ?_, h.ne, h.offP, h.offB⟩, hz.cells.2.2.2, frozen_of_row Z B 3 _ _ hz, hb.setCell (p := ⟨B, 3, none⟩) hB.1 _⟩
  · refine h.own.blocks (fun g e => heap_setCell_other Z ⟨B, 3, none⟩ g _ ?_) (fun i hi hp g off e => heap_setCell_other Z ⟨B, 3, none⟩ g _ (h.offP i hi hp g off e).2) (fun i hi hp g off e => heap_setCell_other Z ⟨B, 3, none⟩ g _ (h.offB i hi hp g off e).2)
    have e : g9 = g := by simpa [Value.ownBlock] using e
    subst e
    exact h.ne
  · unfold StBox
    rw [heap_setCell_same Z B 3 _ _ _ hz]
    rfl
  · rw [heap_setCell_other Z ⟨B, 3, none⟩ k _ hk2]
    exact h.blk k hk hk3
  · have := h.size
    simp only [World.setCell, Array.size_modify]
    omega
end Go.Proofs.YtckpdfkobdgjeaaGreatDoor
namespace Go.Proofs.YtckpdfkobdgjeaaGreatDoor
open Go.RowKit
def ahd (ops : Array Oper) (i d : Nat) : Bool := (List.range ops.size).all fun j => match ops[j]? with
  | some o => o.dst != some d || (j == i) || (behindTo ops i ops.size).contains j
  | none => true
theorem ahd_at {ops : Array Oper} {i d : Nat} (h : ahd ops i d = true) {j : Nat} {o : Oper} (hj : ops[j]? = some o) (hd : o.dst = some d) : j = i ∨ j ∈ behindTo ops i ops.size := by
  have h1 := List.all_eq_true.1 h j (List.mem_range.2 (Array.getElem?_eq_some_iff.1 hj).1)
  rw [hj] at h1
  simp only [hd, bne_self_eq_false, Bool.false_or, Bool.or_eq_true, beq_iff_eq] at h1
  rcases h1 with h1 | h1
  · exact Or.inl h1
  · exact Or.inr (List.contains_iff_mem.1 h1)
theorem notDst_not {ops : Array Oper} {d : Nat} (h : notDst ops d = true) {i : Nat} {o : Oper} (ho : ops[i]? = some o) (hd : o.dst = some d) {p : Prop} : p := by
  simp only [notDst, Array.all_eq_true_iff_forall_mem] at h
  have := h o (Array.mem_of_getElem? ho)
  simp [hd] at this
structure RInvE (ops : Array Oper) (cs : List (Nat × List Nat)) (B0 : Nat) (W0 : World) (T0 : Array Value) (df : List Deferred) (D : Nat → Value → World → Prop) (listed : Array Bool) (a : Act) (w : World) : Prop where
  size : listed.size = ops.size
  below : Below B0 W0 w
  belowS : (∀ c dead, dd cs c = some dead → listed.getD c false = false) → Below W0.heap.size W0 w
  df : a.defers = df
  tsize : a.tmps.size = T0.size
  old : ∀ d, (∀ i o, ops[i]? = some o → o.dst = some d → listed.getD i false = false) → a.tmps.getD d undef = T0.getD d undef
  got : ∀ i o, ops[i]? = some o → (o.dst ≠ none ∨ dd cs i ≠ none) → listed.getD i false = true → ¬ spoilt cs listed i → D i (slotV o a.tmps) w
  closed : ∀ i o, ops[i]? = some o → listed.getD i false = true → ∀ j, waitsFor o j = true → listed.getD j false = true
theorem wpAny_chgE {P : Program} {ops : Array Oper} {Q : Exit → Act → World → Prop} {W0 : World} {T0 : Array Value} {df : List Deferred} {D : Nat → Value → World → Prop} {gs : List (Nat × Bool)} {cs : List (Nat × List Nat)} {B0 : Nat} (hB0 : B0 ≤ W0.heap.size)
    (hok : regOk ops gs T0.size = true) (hg : ∀ g ∈ gs, ∃ o d, ops[g.1]? = some o ∧ o.dst = some d ∧ ∀ v w, D g.1 v w → v = .bool g.2) (hgl : ∀ g ∈ gs, ∀ i, lookB ops cs i g.1 = true)
    (hD : ∀ i v w w', D i v w → Below w.heap.size w w' → D i v w')
    (hstep : ∀ i o, ops[i]? = some o → ∀ (T : Array Value) (w : World), (okW ops cs i = true → Below W0.heap.size W0 w) → Below B0 W0 w → (∀ d, ahd ops i d = true → T.getD d undef = T0.getD d undef) →
      (∀ j oj d, ops[j]? = some oj → oj.dst = some d → waitsFor o j = true → lookB ops cs i j = true → D j (T.getD d undef) w) → OwedB P ops o (Act.eval ⟨T, df⟩) B0 W0 w D cs i)
    (hfin : ∀ (T : Array Value) (w : World), Below B0 W0 w → T.size = T0.size → (∀ d, notDst ops d = true → T.getD d undef = T0.getD d undef) → (∀ i o, ops[i]? = some o → (o.dst ≠ none ∨ dd cs i ≠ none) → spoiltB cs i = false → D i (slotV o T) w) → Q .normal ⟨T, df⟩ w) :
    ∀ (fuel : Nat) (listed : Array Bool) (a : Act) (w : World), unlisted listed ≤ fuel → RInvE ops cs B0 W0 T0 df D listed a w → wpAny P .any ops Q fuel listed a w := by
  have fin : ∀ (listed : Array Bool) (a : Act) (w : World), RInvE ops cs B0 W0 T0 df D listed a w → Region.ready .any ops listed = [] → Q .normal a w := by
    rintro listed ⟨T, ds⟩ w I hr
    obtain rfl : ds = df := I.df
    refine hfin T w I.below I.tsize (fun d hnd => I.old d fun i o ho hd => notDst_not hnd ho hd) fun i o ho hd hdd => I.got i o ho hd (all_listed hok I.size hr i (Array.getElem?_eq_some_iff.1 ho).1) ?_
    rintro ⟨c, dead, hx, _, hxi⟩
    have : spoiltB cs i = true := List.any_eq_true.2 ⟨(c, dead), dd_mem hx, hxi⟩
    rw [hdd] at this
    cases this
  intro fuel
  induction fuel with
  | zero =>
    intro listed a w hf I
    have hr : Region.ready .any ops listed = [] := by
      cases hr : Region.ready .any ops listed with
      | nil => rfl
      | cons i l =>
        have : i ∈ Region.ready .any ops listed := by rw [hr]; simp
        have := unlisted_set (mem_ready.1 this).1
        omega
    exact ⟨hr, fin listed a w I hr⟩
  | succ fuel ih =>
    intro listed a w hf I
    refine ⟨fin listed a w I, fun i hi => ?_⟩
    obtain ⟨h0, o, ho, hall⟩ := mem_ready.1 hi
    have hil : i < listed.size := by have := (Array.getElem?_eq_some_iff.1 ho).1; have := I.size; omega
    have h0' : listed.getD i false = false := by simpa [hil] using h0
    have hcount := unlisted_set h0
    obtain ⟨T, ds⟩ := a
    obtain rfl : ds = df := I.df
    have hat := regOk_at hok ho
    have hwt : ∀ j, waitsFor o j = true → listed.getD j false = true := by
      intro j hw
      simp only [waitsFor, List.any_eq_true, Bool.and_eq_true, beq_iff_eq] at hw
      obtain ⟨e, he, hb, rfl⟩ := hw
      exact hall e (by simpa using he) hb
    have hdep : ∀ j oj d, ops[j]? = some oj → oj.dst = some d → waitsFor o j = true → lookB ops cs i j = true → D j (T.getD d undef) w := by
      intro j oj d hj hd hw hk
      have hgot : slotV oj T = T.getD d undef := by unfold slotV; rw [hd]
      rw [← hgot]
      refine I.got _ oj hj (Or.inl (by rw [hd]; simp)) (hwt j hw) ?_
      rintro ⟨c, dead, hx, hc, hdd⟩
      rcases lookB_at hk hx hdd with e | e
      · subst e
        rw [hc] at h0'
        cases h0'
      · rw [behind_listed I.closed e hc] at h0'
        cases h0'
    have hbs : okW ops cs i = true → Below W0.heap.size W0 w := fun hk => I.belowS fun c dead hx => by
      have h1 := List.all_eq_true.1 hk (c, dead) (dd_mem hx)
      simp only [Bool.or_eq_true, beq_iff_eq] at h1
      cases hc : listed.getD c false with
      | false => rfl
      | true =>
        rcases h1 with e | e
        · subst e
          rw [hc] at h0'
          cases h0'
        · rw [behind_listed I.closed (List.contains_iff_mem.1 e) hc] at h0'
          cases h0'
    have hw : Region.wanted o (yielded ops T) = true := by
      unfold Region.wanted
      cases hgd : o.guard with
      | none => rfl
      | some g =>
        obtain ⟨h1, h2⟩ := hat.2.2 g hgd
        obtain ⟨og, d, hog, hdg, hv⟩ := hg g h2
        have := hv _ _ (hdep g.1 og d hog hdg h1 (hgl g h2 i))
        have hdl : d < T.size := Nat.lt_of_lt_of_eq ((regOk_at hok hog).2.1 d hdg) I.tsize.symm
        simp [yielded_of hog hdg hdl this]
    have hset : ∀ m, listed.getD m false = true → (listed.setIfInBounds i true).getD m false = true := fun m hm => by
      by_cases e : i = m
      · subst e
        simp [hil]
      · rw [getD_set_ne false e]; exact hm
    have hclosed : ∀ j oj, ops[j]? = some oj → (listed.setIfInBounds i true).getD j false = true → ∀ k, waitsFor oj k = true → (listed.setIfInBounds i true).getD k false = true := by
      intro j oj hj hl k hk
      by_cases e : i = j
      · subst e
        rw [ho] at hj
        cases hj
        exact hset k (hwt k hk)
      · rw [getD_set_ne false e] at hl
        exact hset k (I.closed j oj hj hl k hk)
    have next : ∀ (v : Value) (w' : World), D i v w' → (o.dst = none → dd cs i ≠ none → v = undef) → Below B0 W0 w' → ((∀ c dead, dd cs c = some dead → (listed.setIfInBounds i true).getD c false = false) → Below W0.heap.size W0 w') → (∀ j, j ≠ i → (∀ dead, dd cs i = some dead → dead.contains j = false) → listed.getD j false = true → ∀ u, D j u w → D j u w') → wpAny P .any ops Q fuel (listed.setIfInBounds i true) (Act.put ⟨T, ds⟩ o.dst v) w' := by
      intro v w' hv hvu hb hbS hkeep
      refine ih _ _ _ (by omega) ?_
      have got' : ∀ j oj, ops[j]? = some oj → (oj.dst ≠ none ∨ dd cs j ≠ none) → i ≠ j → (listed.setIfInBounds i true).getD j false = true → ¬ spoilt cs (listed.setIfInBounds i true) j → D j (slotV oj T) w' := by
        intro j oj hj hdj e hl hdd
        rw [getD_set_ne false e] at hl
        refine hkeep j (Ne.symm e) (fun dead hx => ?_) hl _ (I.got j oj hj hdj hl ?_)
        · cases hc : dead.contains j with
          | false => rfl
          | true => exact absurd ⟨i, dead, hx, by simp [hil], hc⟩ hdd
        · rintro ⟨c, dead, hx, h1, h2⟩
          exact hdd ⟨c, dead, hx, hset _ h1, h2⟩
      cases hd : o.dst with
      | none =>
        refine ⟨by simpa using I.size, hb, hbS, rfl, I.tsize, fun d hnd => I.old d (fun j oj hj hdj => by
          have := hnd j oj hj hdj
          by_cases e : i = j
          · subst e; exact h0'
          · rwa [getD_set_ne false e] at this), fun j oj hj hdj hl hdd => ?_, hclosed⟩
        by_cases e : i = j
        · subst e
          rw [ho] at hj
          cases hj
          have hdn : dd cs i ≠ none := hdj.resolve_left (fun h => h hd)
          have : slotV o (Act.put ⟨T, ds⟩ none v).tmps = undef := by unfold slotV; rw [hd]
          rw [this, ← hvu hd hdn]
          exact hv
        · exact got' j oj hj hdj e hl hdd
      | some d0 =>
        have hd0 : d0 < T.size := Nat.lt_of_lt_of_eq (hat.2.1 d0 hd) I.tsize.symm
        refine ⟨by simpa using I.size, hb, hbS, rfl, by simpa [Act.put] using I.tsize, fun d hnd => ?_, fun j oj hj hdj hl hdd => ?_, hclosed⟩
        · have hne : d0 ≠ d := by
            rintro rfl
            have := hnd i o ho hd
            simp [hil] at this
          have := I.old d (fun j oj hj hdj => by
            have := hnd j oj hj hdj
            by_cases e : i = j
            · subst e; exact h0'
            · rwa [getD_set_ne false e] at this)
          simp only [Act.put] at this ⊢
          rw [← this]
          simp [Array.getElem?_setIfInBounds_ne hne]
        · by_cases e : i = j
          · subst e
            rw [ho] at hj
            cases hj
            unfold slotV
            rw [hd]
            simpa [Act.put, hd0] using hv
          · have := got' j oj hj hdj e hl hdd
            unfold slotV at this ⊢
            cases hjd : oj.dst with
            | none => rw [hjd] at this; exact this
            | some d =>
              have hne : d0 ≠ d := by
                rintro rfl
                exact e (regOk_dst hok ho hj hd hjd)
              rw [hjd] at this
              simp only [Act.put] at this ⊢
              simpa [Array.getElem?_setIfInBounds_ne hne] using this
    unfold wpOp
    simp only [ho, hw, if_true]
    refine Or.inl ?_
    unfold Oper.wp
    have hdo := hstep i o ho T w hbs I.below (fun d hd => I.old d fun j oj hj hdj => by
      cases hl : listed.getD j false with
      | false => rfl
      | true =>
        rcases ahd_at hd hj hdj with e | e
        · subst e
          rw [hl] at h0'
          cases h0'
        · rw [behind_listed I.closed e hl] at h0'
          cases h0') hdep
    unfold OwedB at hdo
    cases hic : dd cs i with
    | some dead =>
      rw [hic] at hdo
      obtain ⟨v, w', hrun, hvu, hv, hb, hk⟩ := hdo
      have hn := next v w' hv (fun h _ => hvu h) hb (fun hnone => by have := hnone i dead hic; simp [hil] at this) (fun j hj hdd hlj u hu => hk j hj (hdd dead hic) (by
        cases hbb : (behindTo ops i ops.size).contains j with
        | false => rfl
        | true =>
          have := behind_listed I.closed (List.contains_iff_mem.1 hbb) hlj
          rw [this] at h0'
          cases h0') u hu)
      rcases hrun with hrun | ⟨hrun, rfl⟩
      · rw [hrun]
        exact hn
      · rw [hrun]
        exact hn
    | none =>
      rw [hic] at hdo
      rcases hdo with ⟨v, w', hrun, hv, hb⟩ | ⟨f, args, hrun, hc⟩
      · rw [hrun]
        exact next v w' hv (fun _ h => absurd hic h) (I.below.trans (hb.mono (Nat.le_trans hB0 I.below.size))) (fun hnone => by
          have hS := I.belowS fun c dead hx => by
            have h1 := hnone c dead hx
            by_cases e : i = c
            · subst e; rw [hic] at hx; cases hx
            · rwa [getD_set_ne false e] at h1
          exact hS.trans (hb.mono hS.size)) (fun j _ _ _ u hu => hD j u w w' hu hb)
      · rw [hrun]
        refine Calls.mono hc ?_
        rintro e w' ⟨v, rfl, hv, hb⟩
        exact next v w' hv (fun _ h => absurd hic h) (I.below.trans (hb.mono (Nat.le_trans hB0 I.below.size))) (fun hnone => by
          have hS := I.belowS fun c dead hx => by
            have h1 := hnone c dead hx
            by_cases e : i = c
            · subst e; rw [hic] at hx; cases hx
            · rwa [getD_set_ne false e] at h1
          exact hS.trans (hb.mono hS.size)) (fun j _ _ _ u hu => hD j u w w' hu hb)
theorem wp_region_chgE {P : Program} {Q : Exit → Act → World → Prop} {id : Nat} {T0 : Array Value} {df : List Deferred} {w : World} {ops0 : Array Oper} (ops : Array Oper) (heq : ops0 = ops) (Ds : List Des) (gs : List (Nat × Bool)) (cs : List (Nat × List Nat)) (B0 : Nat) (hB0 : B0 ≤ w.heap.size) (hm : P.follows .mixedOrders = true)
    (hok : regOk ops gs T0.size = true) (hgs : gsOk ops gs = true) (hgc : (gs.all fun g => !spoiltB cs g.1) = true) (hg : ∀ g ∈ gs, ∀ v w, desAt Ds g.1 v w → v = .bool g.2)
    (hstep : AllOps (fun i o => ∀ (T : Array Value) (w' : World), (okW ops cs i = true → Below w.heap.size w w') → Below B0 w w' → (∀ d, ahd ops i d = true → T.getD d undef = T0.getD d undef) →
      (∀ j d, (dep ops i j d && lookB ops cs i j) = true → desAt Ds j (T.getD d undef) w') → OwedB P ops o (Act.eval ⟨T, df⟩) B0 w w' (desAt Ds) cs i) ops0.toList 0)
    (hfin : ∀ (T : Array Value) (w' : World), Below B0 w w' → T.size = T0.size → (∀ d, notDst ops d = true → T.getD d undef = T0.getD d undef) → (∀ i d, spoiltB cs i = false → dstAt ops i d = true → desAt Ds i (T.getD d undef) w') → (∀ c, noDst ops c = true → (dd cs c).isSome = true → spoiltB cs c = false → desAt Ds c undef w') → Q .normal ⟨T, df⟩ w') :
    (Code.region id ops0 true).wp P Q ⟨T0, df⟩ w := by
  have heq := heq.symm
  subst heq
  have hdep : ∀ (T : Array Value) (w' : World) (i : Nat) (o : Oper), ops[i]? = some o → (∀ j oj d, ops[j]? = some oj → oj.dst = some d → waitsFor o j = true → lookB ops cs i j = true → desAt Ds j (T.getD d undef) w') → ∀ j d, (dep ops i j d && lookB ops cs i j) = true → desAt Ds j (T.getD d undef) w' := by
    intro T w' i o ho hd j d hjj
    rw [Bool.and_eq_true] at hjj
    obtain ⟨hj, hk⟩ := hjj
    unfold dep at hj
    rw [ho] at hj
    cases hoj : ops[j]? with
    | none => rw [hoj] at hj; cases hj
    | some oj =>
      rw [hoj] at hj
      simp only [Bool.and_eq_true, beq_iff_eq] at hj
      exact hd j oj d hoj hj.2 hj.1 hk
  refine wp_region_any hm (wpAny_chgE (W0 := w.drewN 1) (df := df) (D := desAt Ds) (gs := gs) (cs := cs) (B0 := B0) hB0 hok (fun g hgm => ?_) (fun g hgm i => ?_) (fun i v w w' h hb => (Ds.getD i (isV undef)).2 v w w' h hb) (fun i o ho T w' hbS hb ht hd => ?_) (fun T w' hb hs ht hd => ?_) _ _ _ _ ?_ ?_)
  · have := List.all_eq_true.1 hgs g hgm
    cases ho : ops[g.1]? with
    | none => rw [ho] at this; cases this
    | some o =>
      rw [ho] at this
      obtain ⟨d, hd⟩ := Option.isSome_iff_exists.1 this
      exact ⟨o, d, rfl, hd, hg g hgm⟩
  · have h1 := List.all_eq_true.1 hgc g hgm
    refine List.all_eq_true.2 fun x hx => ?_
    cases hc : x.2.contains g.1 with
    | false => rfl
    | true =>
      have : spoiltB cs g.1 = true := List.any_eq_true.2 ⟨x, hx, hc⟩
      rw [this] at h1
      cases h1
  · have := hstep.at i o (by simpa using ho)
    rw [Nat.zero_add] at this
    have h := this T w' (fun hk => (_root_.Go.below_drewN (Below.refl _ _) 1).trans (hbS hk)) ((_root_.Go.below_drewN (Below.refl _ _) 1).trans hb) ht (hdep T w' i o ho hd)
    unfold OwedB at h ⊢
    cases hic : dd cs i with
    | none => rw [hic] at h; exact h
    | some dead =>
      rw [hic] at h
      obtain ⟨v, w'', h1, h1', h2, h3, h4⟩ := h
      exact ⟨v, w'', h1, h1', h2, ⟨h3.os, h3.tape, h3.output, h3.size, h3.block⟩, h4⟩
  · refine hfin T w' ((_root_.Go.below_drewN (Below.refl _ _) 1).trans hb) hs ht (fun i d hdd hi => ?_) (fun c hn hs hdd => ?_)
    · unfold dstAt at hi
      cases ho : ops[i]? with
      | none => rw [ho] at hi; cases hi
      | some o =>
        rw [ho] at hi
        have hdo : o.dst = some d := by simpa using hi
        have := hd i o ho (Or.inl (by rw [hdo]; simp)) hdd
        unfold slotV at this
        rw [hdo] at this
        exact this
    · unfold noDst at hn
      cases ho : ops[c]? with
      | none => rw [ho] at hn; cases hn
      | some o =>
        rw [ho] at hn
        have hdo : o.dst = none := by simpa using hn
        have := hd c o ho (Or.inr (by intro h; rw [h] at hs; cases hs)) hdd
        unfold slotV at this
        rw [hdo] at this
        exact this
  · simp [unlisted]
  · exact ⟨by simp, Below.refl _ _, fun _ => Below.refl _ _, rfl, rfl, fun _ _ => rfl, fun i o ho _ hl => by
      have hi : i < ops.size := (Array.getElem?_eq_some_iff.1 ho).1
      simp [hi] at hl, fun i o ho hl => by
      have hi : i < ops.size := (Array.getElem?_eq_some_iff.1 ho).1
      simp [hi] at hl⟩
end Go.Proofs.YtckpdfkobdgjeaaGreatDoor
namespace Go.Proofs.YtckpdfkobdgjeaaGreatDoor
open Go.RowKit
def TyB (w : World) (b : Nat) (t : TypeId) : Prop := ∃ cs fr, w.heap[b]? = some (.cells cs t fr)
theorem TyB.later {w w' : World} {b : Nat} {t : TypeId} (h : TyB w b t) (hb : Below w.heap.size w w') : TyB w' b t := by
  obtain ⟨cs, fr, h⟩ := h
  exact ⟨cs, fr, (hb.block b (Array.getElem?_eq_some_iff.1 h).1).trans h⟩
theorem TyB.away {w w' : World} {b : Nat} {t : TypeId} (h : TyB w b t) (hb : w'.heap[b]? = w.heap[b]?) : TyB w' b t := by
  obtain ⟨cs, fr, h⟩ := h
  exact ⟨cs, fr, hb.trans h⟩
theorem TyB.lt {w : World} {b : Nat} {t : TypeId} (h : TyB w b t) : b < w.heap.size := by
  obtain ⟨cs, fr, h⟩ := h
  exact (Array.getElem?_eq_some_iff.1 h).1
end Go.Proofs.YtckpdfkobdgjeaaGreatDoor
namespace Go.Proofs.YtckpdfkobdgjeaaGreatDoor
open Go.RowKit
end Go.Proofs.YtckpdfkobdgjeaaGreatDoor
namespace Go.Proofs.YtckpdfkobdgjeaaGreatDoor
open Go.RowKit
theorem OwnQs.keep {w w' : World} {B : Nat} {v : Value} {l : QL} (h : OwnQs w B v l) (h0 : ∀ g, v.ownBlock = some g → w'.heap[g]? = w.heap[g]?) (h1 : ∀ i, i < l.length → 0 < (qu l i).cn → ∀ b off, (qu l i).ca = some ⟨b, off, none⟩ → w'.heap[b]? = w.heap[b]?) : OwnQs w' B v l := by
  refine ⟨⟨h.row.1, ?_⟩, fun i hi => (h.caps i hi).of_away (h1 i hi), h.far, h.names⟩
  rcases h.row.2 with hz | ⟨g, cap, cur, rfl, hB, hg, rest⟩
  · exact .inl hz
  · exact .inr ⟨g, cap, cur, rfl, hB, (h0 g rfl).trans hg, rest⟩
theorem own_is {g n c b : Nat} : (Value.slice (some ⟨g, 0, none⟩) n c).ownBlock = some b ↔ g = b := by simp [Value.ownBlock]
structure Put (Z W3 : World) (L G : Nat) (aa : Option Addr) (bn k3 : Nat) (b' : BL) (X : Bk) (g9 k9 : Nat) (c n : Int) (tv : Value) : Prop where
  own : OwnBks Z L (.slice (some ⟨g9, 0, none⟩) (bn + 1) k9) (b' ++ [X])
  box : StBox Z G (.int .i64 c) (.int .i64 n) tv (.slice (some ⟨g9, 0, none⟩) (bn + 1) k9)
  blk : ∀ k, k < W3.heap.size → k ≠ G → some k ≠ (Value.slice aa bn k3).ownBlock → Z.heap[k]? = W3.heap[k]?
  size : W3.heap.size ≤ Z.heap.size
  low : L ≤ g9
  ne : g9 ≠ G
  offP : ∀ i, i < (b' ++ [X]).length → 0 < (bk (b' ++ [X]) i).rq.pn → ∀ g off, (bk (b' ++ [X]) i).rq.pa = some ⟨g, off, none⟩ → L ≤ g ∧ g ≠ G
  offB : ∀ i, i < (b' ++ [X]).length → 0 < (bk (b' ++ [X]) i).bn → ∀ g off, (bk (b' ++ [X]) i).ba = some ⟨g, off, none⟩ → L ≤ g ∧ g ≠ G
theorem Put.later {Z Y W3 : World} {L G : Nat} {aa : Option Addr} {bn k3 : Nat} {b' : BL} {X : Bk} {g9 k9 : Nat} {c n : Int} {tv : Value} (h : Put Z W3 L G aa bn k3 b' X g9 k9 c n tv) (hb : Below Z.heap.size Z Y) : Put Y W3 L G aa bn k3 b' X g9 k9 c n tv :=
  ⟨h.own.later hb, h.box.later hb, fun k hk hk2 hk3 => (hb.block k (by have := h.size; omega)).trans (h.blk k hk hk2 hk3), Nat.le_trans h.size hb.size, h.low, h.ne, h.offP, h.offB⟩
theorem Made.put {Z W3 : World} {B L G : Nat} {aa : Option Addr} {bn k3 : Nat} {b' : BL} {X : Bk} {g9 k9 : Nat} (h : Made Z W3 L L G aa bn k3 b' X g9 k9) {c n : Int} {tv : Value} (hx : StBox W3 G (.int .i64 c) (.int .i64 n) tv (.slice aa bn k3) ∧ some G ≠ (Value.slice aa bn k3).ownBlock) (hBG : B ≤ G) (hG : G < W3.heap.size) (hb : Below B W3 Z) :
    Put (Z.setCell ⟨G, 3, none⟩ (.slice (some ⟨g9, 0, none⟩) (bn + 1) k9)) W3 L G aa bn k3 b' X g9 k9 c n tv ∧ Z.cell? ⟨G, 3, none⟩ = some (.slice aa bn k3) ∧ Z.frozen? ⟨G, 3, none⟩ = false ∧ Below B W3 (Z.setCell ⟨G, 3, none⟩ (.slice (some ⟨g9, 0, none⟩) (bn + 1) k9)) := by
  have hz : StBox Z G (.int .i64 c) (.int .i64 n) tv (.slice aa bn k3) := (h.blk G hG hx.2).trans hx.1
  refine ⟨⟨?_, ?_, fun k hk hk2 hk3 => ?_, ?_, h.low, h.ne, h.offP, h.offB⟩, hz.cells.2.2.2, frozen_of_row Z G 3 _ _ hz, hb.setCell (p := ⟨G, 3, none⟩) hBG _⟩
  · refine h.own.blocks (fun g e => heap_setCell_other Z ⟨G, 3, none⟩ g _ ?_) (fun i hi hp g off e => heap_setCell_other Z ⟨G, 3, none⟩ g _ (h.offP i hi hp g off e).2) (fun i hi hp g off e => heap_setCell_other Z ⟨G, 3, none⟩ g _ (h.offB i hi hp g off e).2)
    have e : g9 = g := by simpa [Value.ownBlock] using e
    subst e
    exact h.ne
  · unfold StBox
    rw [heap_setCell_same Z G 3 _ _ _ hz]
    rfl
  · rw [heap_setCell_other Z ⟨G, 3, none⟩ k _ hk2]
    exact h.blk k hk hk3
  · have := h.size
    simp only [World.setCell, Array.size_modify]
    omega
end Go.Proofs.YtckpdfkobdgjeaaGreatDoor
namespace Go.Proofs.YtckpdfkobdgjeaaGreatDoor
open Go.RowKit
def OwnBytes (w : World) (B : Nat) (v : Value) (l : List Int) : Prop := w.ownsRow B 5 1 v l.length (l.map (Value.int .u8))
structure Wr (w : World) (B G : Nat) (v : Value) (bs : List Int) (wide : Bool) : Prop where
  box : w.heap[G]? = some (.cells #[v, .bool wide] 74 (0, 0))
  row : OwnBytes w B v bs
  apart : v.ownBlock ≠ some G
def outB (x : Int) : Bool := decide (x < 0) || decide (255 < x)
def u8 (x : Int) : Int := x % 256
theorem bytes_put (w : World) (B : Nat) (v : Value) (l : List Int) (h : OwnBytes w B v l) (y : Int) (gL : Nat) (hL : w.heap[gL]? = some (.cells #[.int .u8 y] 5 (0, 0))) (hl : l.length ≤ 100000) (hB : B ≤ w.heap.size) :
    ∃ g k w', (∀ ty, (Builtin.append_ #[72, 72] ty #[v, .slice (some ⟨gL, 0, none⟩) 1 1]).run Tryz.prog w = .ok (.slice (some ⟨g, 0, none⟩) (l.length + 1) k) w') ∧ OwnBytes w' B (.slice (some ⟨g, 0, none⟩) (l.length + 1) k) (l ++ [y]) ∧ w.grownBy w' v.ownBlock ∧ (v.ownBlock = some g ∨ g = w.heap.size) := by
  obtain ⟨i0, hi, e⟩ := Option.map_eq_some_iff.1 (show (Tryz.prog.info? 5).map (fun i => (i.zero, i.size, i.bytes)) = some (some (.int .u8 0), 1, 1) from by kernel_rfl)
  simp only [Prod.mk.injEq] at e
  obtain ⟨e1, e2, e3⟩ := e
  obtain ⟨g, k, w', h1, h2, h3, h4, h5⟩ := run_append_lies w 72 0 B 5 i0 _ 1 1 Tryz.underlying72 hi e1 e2 e3 (by rfl) (by omega) v l.length _ h ⟨gL, 0, none⟩ 1 1 [.int .u8 y] (by simp)
    (fun j u hu => by rw [Addr.add_lit, Nat.zero_add, cell_of_row w gL j _ _ _ hL]; simpa using hu) (fun u hu => by simp only [List.mem_singleton] at hu; subst hu; rfl) (by omega) (by simp only [maxLen]; omega) (by omega) hB w.heap.size rfl
  refine ⟨g, k, w', fun ty => h1, ?_, h3, h4⟩
  unfold OwnBytes
  rw [List.length_append, List.map_append]
  exact h2
theorem Wr.later {w w' : World} {B G : Nat} {v : Value} {bs : List Int} {wide : Bool} (h : Wr w B G v bs wide) (hb : Below w.heap.size w w') : Wr w' B G v bs wide :=
  ⟨(hb.block G (Array.getElem?_eq_some_iff.1 h.box).1).trans h.box, ownsRow_later h.row hb, h.apart⟩
structure Puts (w w' : World) (B G : Nat) (v v' : Value) : Prop where
  below : Below B w w'
  blk : ∀ k, k < w.heap.size → k ≠ G → v.ownBlock ≠ some k → w'.heap[k]? = w.heap[k]?
  own : ∀ k, v'.ownBlock = some k → v.ownBlock = some k ∨ w.heap.size ≤ k
theorem Puts.refl {w : World} {B G : Nat} {v : Value} : Puts w w B G v v := ⟨Below.refl _ _, fun _ _ _ _ => rfl, fun _ h => Or.inl h⟩
theorem Puts.trans {w w1 w2 : World} {B G : Nat} {v v1 v2 : Value} (h : Puts w w1 B G v v1) (h2 : Puts w1 w2 B G v1 v2) : Puts w w2 B G v v2 := by
  have hs := h.below.size
  refine ⟨h.below.trans h2.below, fun k hk hG hv => ?_, fun k hk => ?_⟩
  · rw [h2.blk k (by omega) hG (fun e => by rcases h.own k e with h3 | h3; exact hv h3; omega), h.blk k hk hG hv]
  · rcases h2.own k hk with h3 | h3
    · exact h.own k h3
    · exact Or.inr (by omega)
theorem Puts.pre {w w1 w2 : World} {B G : Nat} {v v2 : Value} (h : Below w.heap.size w w1) (hB : B ≤ w.heap.size) (h2 : Puts w1 w2 B G v v2) : Puts w w2 B G v v2 := by
  have hs := h.size
  refine ⟨(h.mono hB).trans h2.below, fun k hk hG hn => (h2.blk k (by omega) hG hn).trans (h.block k hk), fun k hk => ?_⟩
  rcases h2.own k hk with h3 | h3
  · exact Or.inl h3
  · exact Or.inr (by omega)
theorem put_step (wr : World) (B G : Nat) (v' : Value) (l : List Int) (W : Bool) (h : Wr wr B G v' l W) (W' : Bool) (y : Int) (hB : B ≤ wr.heap.size) (hG : B ≤ G) (hl : l.length ≤ 100000) :
    ∃ g k9 W9, (∀ ty, (Builtin.append_ #[72, 72] ty #[v', .slice (some ⟨wr.heap.size, 0, none⟩) 1 1]).run Tryz.prog ((wr.setCell ⟨G, 1, none⟩ (.bool W')).alloc (.cells #[.int .u8 y] 5)) = .ok (.slice (some ⟨g, 0, none⟩) (l.length + 1) k9) W9) ∧ W9.cell? ⟨G, 0, none⟩ = some v' ∧ W9.frozen? ⟨G, 0, none⟩ = false ∧
      Wr (W9.setCell ⟨G, 0, none⟩ (.slice (some ⟨g, 0, none⟩) (l.length + 1) k9)) B G (.slice (some ⟨g, 0, none⟩) (l.length + 1) k9) (l ++ [y]) W' ∧ Puts wr (W9.setCell ⟨G, 0, none⟩ (.slice (some ⟨g, 0, none⟩) (l.length + 1) k9)) B G v' (.slice (some ⟨g, 0, none⟩) (l.length + 1) k9) := by
  obtain ⟨Wa, hWa⟩ : ∃ Wa, Wa = wr.setCell ⟨G, 1, none⟩ (.bool W') := ⟨_, rfl⟩
  obtain ⟨Wc, hWc⟩ : ∃ Wc, Wc = Wa.alloc (.cells #[.int .u8 y] 5) := ⟨_, rfl⟩
  have hGs : G < wr.heap.size := (Array.getElem?_eq_some_iff.1 h.box).1
  have hsa : Wa.heap.size = wr.heap.size := by rw [hWa]; simp [World.setCell]
  have ba : Wa.heap[G]? = some (.cells #[v', .bool W'] 74 (0, 0)) := by rw [hWa]; exact heap_setCell_same wr G 1 _ _ _ h.box
  have oa : ∀ k, k ≠ G → Wa.heap[k]? = wr.heap[k]? := fun k hk => by rw [hWa]; exact heap_setCell_other wr ⟨G, 1, none⟩ k _ hk
  have hbc : Below Wa.heap.size Wa Wc := by rw [hWc]; exact (Below.refl _ _).alloc (Nat.le_refl _) _
  have hrow : OwnBytes Wc B v' l := by
    have h1 : OwnBytes Wa B v' l := by
      refine ⟨h.row.1, ?_⟩
      rcases h.row.2 with hz | ⟨g, cap, cur, rfl, hB2, hg, rest⟩
      · exact .inl hz
      · exact .inr ⟨g, cap, cur, rfl, hB2, (oa g (fun e => h.apart (by rw [e]; rfl))).trans hg, rest⟩
    exact ownsRow_later h1 hbc
  have hLc : Wc.heap[wr.heap.size]? = some (.cells #[.int .u8 y] 5 (0, 0)) := by rw [hWc, ← hsa]; exact heap_alloc_new Wa _
  have hsc : Wc.heap.size = wr.heap.size + 1 := by rw [hWc]; simp [hsa]
  obtain ⟨g, k9, W9, h1, h2, h3, h4⟩ := bytes_put Wc B v' l hrow y wr.heap.size hLc hl (by omega)
  have hgG : g ≠ G := fun e => by
    rcases h4 with h5 | h5
    · exact h.apart (by rw [← e]; exact h5)
    · omega
  have b9 : W9.heap[G]? = some (.cells #[v', .bool W'] 74 (0, 0)) := by
    rw [h3.block G (by omega) (fun e => h.apart e.symm), hbc.block G (by omega)]
    exact ba
  have hs9 := h3.size
  have hbel : Below B wr W9 := by
    have q1 : Below B wr Wa := by rw [hWa]; exact (Below.refl B wr).setCell (p := ⟨G, 1, none⟩) hG _
    have q2 : Below B wr Wc := q1.trans (hbc.mono (by omega))
    exact q2.grown h3 (by omega) (fun k e => (hrow.lt k e).1)
  refine ⟨g, k9, W9, by rw [← hWa, ← hWc]; exact h1, by rw [cell_of_row W9 G 0 _ _ _ b9]; rfl, frozen_of_row W9 G 0 _ _ b9, ⟨?_, ?_, fun e => hgG (own_is.1 e)⟩, ⟨hbel.setCell (p := ⟨G, 0, none⟩) hG _, fun k hk hkG hkv => ?_, fun k hk => ?_⟩⟩
  · rw [heap_setCell_same W9 G 0 _ _ _ b9]
    rfl
  · refine ⟨by rw [List.length_append, List.length_map]; rw [List.length_append]; simp, ?_⟩
    rcases h2.2 with ⟨e, _⟩ | ⟨g', cap, cur, e, hB2, hg, rest⟩
    · cases e
    · refine .inr ⟨g', cap, cur, e.trans (by simp), hB2, ?_, rest⟩
      injection e with e
      injection e with e
      injection e with e
      rw [heap_setCell_other W9 ⟨G, 0, none⟩ g' _ (by rw [← e]; exact hgG)]
      exact hg
  · rw [heap_setCell_other W9 ⟨G, 0, none⟩ k _ hkG, h3.block k (by omega) (fun e => hkv e.symm), hbc.block k (by omega), oa k hkG]
  · have e := own_is.1 hk
    subst e
    rcases h4 with h5 | h5
    · exact Or.inl h5
    · exact Or.inr (by omega)
theorem take_u8 {bs xs l : List Int} {n k : Nat} {x : Int} (hn : n = xs.length) (hk : k < n) (hx : xs.getD k 0 = x) (hl : bs ++ (xs.take k).map u8 = l) : bs ++ (xs.take (k + 1)).map u8 = l ++ [x % 256] := by
  have e : xs[k]'(by omega) = x := by rw [← hx]; simp [List.getD, show k < xs.length by omega]
  rw [List.take_succ_eq_append_getElem (by omega), List.map_append, ← List.append_assoc, hl, e]
  rfl
theorem take_out {xs : List Int} {n k : Nat} {x : Int} {wide W : Bool} (hn : n = xs.length) (hk : k < n) (hx : xs.getD k 0 = x) (hW : (wide || (xs.take k).any outB) = W) : (wide || (xs.take (k + 1)).any outB) = (W || outB x) := by
  have e : xs[k]'(by omega) = x := by rw [← hx]; simp [List.getD, show k < xs.length by omega]
  rw [List.take_succ_eq_append_getElem (by omega), List.any_append, ← Bool.or_assoc, hW, e]
  simp
set_option maxRecDepth 100000 in
set_option maxHeartbeats 4000000 in
theorem put_any (w : World) (B G : Nat) (v : Value) (bs : List Int) (wide : Bool) (h : Wr w B G v bs wide) (a : Option Addr) (n cap : Nat) (xs : List Int) (hx : IntsIn w a n cap xs) (hfar : ∀ b off, a = some ⟨b, off, none⟩ → b ≠ G ∧ v.ownBlock ≠ some b) (hn : bs.length + n ≤ 100000) (hB : B ≤ w.heap.size) (hG : B ≤ G) :
    Calls Tryz.prog 29 #[.pointer (some ⟨G, 0, none⟩), .slice a n cap] w fun e w' => e = .returned (.tuple #[]) ∧ ∃ v', Wr w' B G v' (bs ++ xs.map u8) (wide || xs.any outB) ∧ Puts w w' B G v v' := by
  have hxl := hx.len
  have hle := hx.le
  have hcb := hx.capb
  have HX := hid hx
  have HF := hid hfar
  have HXL := hid hxl
  have H0 := hid h
  clear hx hfar hxl h
  go_enter Tryz.func29, Tryz.ntmps29
  go_wp2
  go_loopg [8] n (fun gk (p : Value) wr => ∃ (k : Nat) (v' : Value), p = .int .i64 k ∧ k ≤ n ∧ gk = n - k ∧ Wr wr B G v' (bs ++ (xs.take k).map u8) (wide || (xs.take k).any outB) ∧ Puts w wr B G v v')
  case atStart => exact ⟨0, v, rfl, by omega, by omega, by simpa using H0.out, Puts.refl⟩
  case round =>
    obtain ⟨k, v', rfl, hk, rfl, hw, hp⟩ := hrel
    by_cases hlt : k < n
    · have hlt' : (k : Int) < n := by omega
      obtain ⟨xb, xo, hxa, hcx⟩ := HX.out.cells (by omega)
      obtain ⟨f1, f2⟩ := HF.out xb xo hxa
      have cx := hcx k hlt
      have hxlt : xb < w.heap.size := block_lt_of_cell (hcx 0 (by omega))
      have cx : wr.cell? ⟨xb, xo + k, none⟩ = some (.int .i64 (xs.getD k 0)) := (World.cell?_of_block (w := w) (hp.blk xb hxlt f1 f2)).trans cx
      obtain ⟨x, hxx⟩ : ∃ x, xs.getD k 0 = x := ⟨_, rfl⟩
      rw [hxx] at cx
      obtain ⟨W, hW⟩ : ∃ W, (wide || (xs.take k).any outB) = W := ⟨_, rfl⟩
      rw [hW] at hw
      obtain ⟨l, hl⟩ : ∃ l, bs ++ (xs.take k).map u8 = l := ⟨_, rfl⟩
      rw [hl] at hw
      have b0 : wr.cell? ⟨G, 0, none⟩ = some v' := by rw [cell_of_row wr G 0 _ _ _ hw.box]; rfl
      have b1 : wr.cell? ⟨G, 1, none⟩ = some (.bool W) := by rw [cell_of_row wr G 1 _ _ _ hw.box]; rfl
      have bf : ∀ m, wr.frozen? ⟨G, m, none⟩ = false := fun m => frozen_of_row wr G m _ _ hw.box
      have HWR := hid hw
      have HP := hid hp
      have HXX := hid hxx
      have HWW := hid hW
      have HLL := hid hl
      subst hxa
      clear hw hp hcx hxx hW hl
      have HLEN : Hid (l.length ≤ 100000) := by show l.length ≤ 100000; rw [← HLL.out, List.length_append, List.length_map, List.length_take]; omega
      cases W with
      | true =>
        obtain ⟨g, k9, W9, hrun, c0, cf, hwf, hpf⟩ := put_step wr B G v' l true HWR.out true (x % 256) (by have := HP.out.below.size; omega) hG (by have := HLEN.out; omega)
        have HWF := hid hwf
        have HPF := hid hpf
        clear hwf hpf
        go_wp2_with (at_builtin; refine Lib.wpList_append_run _ rfl _ _ _ _ rfl _ _ rfl rfl _ _ (hrun _) ?_)
        go_roundg (n - (k + 1))
        case measure => omega
        case rel =>
          refine ⟨k + 1, _, by go_num, by omega, by omega, ?_, HP.out.trans HPF.out⟩
          rw [take_u8 HXL.out hlt HXX.out HLL.out, take_out HXL.out hlt HXX.out HWW.out, Bool.true_or]
          exact HWF.out
      | false =>
        by_cases h1 : x < 0
        · have hF : outB x = true := by simp [outB, h1]
          obtain ⟨g, k9, W9, hrun, c0, cf, hwf, hpf⟩ := put_step wr B G v' l false HWR.out true (x % 256) (by have := HP.out.below.size; omega) hG (by have := HLEN.out; omega)
          have HWF := hid hwf
          have HPF := hid hpf
          clear hwf hpf
          go_wp2_with (at_builtin; refine Lib.wpList_append_run _ rfl _ _ _ _ rfl _ _ rfl rfl _ _ (hrun _) ?_)
          go_roundg (n - (k + 1))
          case measure => omega
          case rel =>
            refine ⟨k + 1, _, by go_num, by omega, by omega, ?_, HP.out.trans HPF.out⟩
            rw [take_u8 HXL.out hlt HXX.out HLL.out, take_out HXL.out hlt HXX.out HWW.out, hF, Bool.false_or]
            exact HWF.out
        · by_cases h2 : 255 < x
          · have hF : outB x = true := by simp [outB, h2]
            obtain ⟨g, k9, W9, hrun, c0, cf, hwf, hpf⟩ := put_step wr B G v' l false HWR.out true (x % 256) (by have := HP.out.below.size; omega) hG (by have := HLEN.out; omega)
            have HWF := hid hwf
            have HPF := hid hpf
            clear hwf hpf
            go_wp2_with (at_builtin; refine Lib.wpList_append_run _ rfl _ _ _ _ rfl _ _ rfl rfl _ _ (hrun _) ?_)
            go_roundg (n - (k + 1))
            case measure => omega
            case rel =>
              refine ⟨k + 1, _, by go_num, by omega, by omega, ?_, HP.out.trans HPF.out⟩
              rw [take_u8 HXL.out hlt HXX.out HLL.out, take_out HXL.out hlt HXX.out HWW.out, hF, Bool.false_or]
              exact HWF.out
          · have hF : outB x = false := by simp only [outB, Bool.or_eq_false_iff, decide_eq_false_iff_not]; exact ⟨h1, h2⟩
            have h1d : decide (x < 0) = false := decide_eq_false h1
            have h2d : decide (255 < x) = false := decide_eq_false h2
            have hxr : 0 ≤ x ∧ x ≤ 255 := by omega
            obtain ⟨g, k9, W9, hrun, c0, cf, hwf, hpf⟩ := put_step wr B G v' l false HWR.out false x (by have := HP.out.below.size; omega) hG (by have := HLEN.out; omega)
            have HWF := hid hwf
            have HPF := hid hpf
            clear hwf hpf
            go_wp2_with (at_builtin; refine Lib.wpList_append_run _ rfl _ _ _ _ rfl _ _ rfl rfl _ _ (hrun _) ?_)
            go_roundg (n - (k + 1))
            case measure => omega
            case rel =>
              refine ⟨k + 1, _, by go_num, by omega, by omega, ?_, HP.out.trans HPF.out⟩
              rw [take_u8 HXL.out hlt HXX.out HLL.out, take_out HXL.out hlt HXX.out HWW.out, hF, Bool.false_or, show x % 256 = x by omega]
              exact HWF.out
    · obtain rfl : k = n := by omega
      have HW := hid hw
      have HP := hid hp
      clear hw hp
      go_wp2
      have hfin := HW.out
      rw [HXL.out, List.take_length] at hfin
      have HFIN := hid hfin
      clear hfin
      go_end0
      exact ⟨rfl, v', HFIN.out, HP.out⟩
end Go.Proofs.YtckpdfkobdgjeaaGreatDoor
namespace Go.Proofs.YtckpdfkobdgjeaaGreatDoor
open Go.RowKit
theorem two_ints (w : World) (a b : Int) : IntsIn (w.alloc (.cells #[.int .i64 a, .int .i64 b] 3)) (some ⟨w.heap.size, 0, none⟩) 2 2 [a, b] := by
  have h := heap_alloc_new w (.cells #[.int .i64 a, .int .i64 b] 3)
  refine ⟨rfl, Nat.le_refl _, by omega, fun _ => ⟨w.heap.size, 0, rfl, fun i hi => ?_⟩⟩
  rw [Nat.zero_add, cell_of_row _ _ i _ _ _ h]
  match i, hi with
  | 0, _ => rfl
  | 1, _ => rfl
theorem one_int' (w : World) (a : Int) : IntsIn (w.alloc (.cells #[.int .i64 a] 3)) (some ⟨w.heap.size, 0, none⟩) 1 1 [a] := by
  have h := heap_alloc_new w (.cells #[.int .i64 a] 3)
  refine ⟨rfl, Nat.le_refl _, by omega, fun _ => ⟨w.heap.size, 0, rfl, fun i hi => ?_⟩⟩
  rw [Nat.zero_add, cell_of_row _ _ i _ _ _ h]
  match i, hi with
  | 0, _ => rfl
set_option maxRecDepth 100000 in
set_option maxHeartbeats 1000000 in
theorem numbers_piece (w : World) (a b : Int) :
    Calls Tryz.prog 72 #[.iface 64 (.agg #[.int .i64 a, .int .i64 b])] w fun e w' => ∃ g, e = .returned (.slice (some ⟨g, 0, none⟩) 2 2) ∧ w.heap.size ≤ g ∧ IntsIn w' (some ⟨g, 0, none⟩) 2 2 [a, b] ∧ Below w.heap.size w w' := by
  have ha : ∀ (W : World) (v : Value), (Instr.typeAssert (.iface 64 v) 20 64 true).run Tryz.prog W = .ok (.tuple #[v, .bool true]) W := fun W v => by kernel_rfl
  obtain ⟨S, hS⟩ : ∃ S, w.heap.size = S := ⟨_, rfl⟩
  go_enter Tryz.func72, Tryz.ntmps72
  go_wp2
  go_ret
  refine ⟨_, rfl, ?_, ?_, ?_⟩
  · omega
  · have := two_ints (w.alloc (.cells #[.int .i64 a, .int .i64 b] 64)) a b
    rw [World.size_alloc, hS] at this
    exact this
  · exact ((Below.refl _ _).alloc (Nat.le_refl _) _).alloc (by simp) _
set_option maxRecDepth 100000 in
set_option maxHeartbeats 1000000 in
theorem numbers_run (w : World) (a b : Int) :
    Calls Tryz.prog 72 #[.iface 55 (.agg #[.int .i64 a, .int .i64 b])] w fun e w' => ∃ g, e = .returned (.slice (some ⟨g, 0, none⟩) 2 2) ∧ w.heap.size ≤ g ∧ IntsIn w' (some ⟨g, 0, none⟩) 2 2 [a, b] ∧ Below w.heap.size w w' := by
  have ha : ∀ (W : World) (v : Value), (Instr.typeAssert (.iface 55 v) 20 55 true).run Tryz.prog W = .ok (.tuple #[v, .bool true]) W := fun W v => by kernel_rfl
  have hn : ∀ (W : World) (v : Value), (Instr.typeAssert (.iface 55 v) 20 64 true).run Tryz.prog W = .ok (.tuple #[.agg #[.int .i64 0, .int .i64 0], .bool false]) W := fun W v => by kernel_rfl
  obtain ⟨S, hS⟩ : ∃ S, w.heap.size = S := ⟨_, rfl⟩
  go_enter Tryz.func72, Tryz.ntmps72
  go_wp2
  go_ret
  refine ⟨_, rfl, ?_, ?_, ?_⟩
  · omega
  · have := two_ints (w.alloc (.cells #[.int .i64 a, .int .i64 b] 55)) a b
    rw [World.size_alloc, hS] at this
    exact this
  · exact ((Below.refl _ _).alloc (Nat.le_refl _) _).alloc (by simp) _
end Go.Proofs.YtckpdfkobdgjeaaGreatDoor
namespace Go.Proofs.YtckpdfkobdgjeaaGreatDoor
open Go.RowKit
def outP (p : Int × Int) : Bool := outB p.1 || outB p.2
def numsP (l : RunL) : List Int := l.flatMap fun p => [p.1, p.2]
theorem numsP_len (l : RunL) : (numsP l).length = 2 * l.length := by
  unfold numsP
  induction l with
  | nil => rfl
  | cons p l ih => simp [List.flatMap_cons] at ih ⊢; omega
theorem take_pair {l : RunL} {k : Nat} (hk : k < l.length) : l.take (k + 1) = l.take k ++ [(rAt l k, rN l k)] := by
  rw [List.take_succ_eq_append_getElem hk]
  congr 2
  simp [rAt, rN, List.getD, hk]
theorem numsP_snoc {l : RunL} {k : Nat} (hk : k < l.length) : numsP (l.take (k + 1)) = numsP (l.take k) ++ [rAt l k, rN l k] := by
  rw [take_pair hk]
  simp [numsP]
theorem outP_snoc {l : RunL} {k : Nat} (hk : k < l.length) : (l.take (k + 1)).any outP = ((l.take k).any outP || (outB (rAt l k) || outB (rN l k))) := by
  rw [take_pair hk]
  simp [outP]
structure ListPut (w w' : World) (B G : Nat) (v : Value) (bs : List Int) (wide : Bool) (l : RunL) (W : Bool) : Prop where
  put : ∃ v' bs', Wr w' B G v' bs' W ∧ Puts w w' B G v v' ∧ bs'.length ≤ bs.length + 600 ∧ (W = false → bs' = bs ++ (((l.length : Int) :: numsP l).map u8))
  wide : W = (wide || outB l.length || l.any outP)
set_option maxRecDepth 100000 in
set_option maxHeartbeats 4000000 in
theorem putListPiece (w : World) (B G : Nat) (v : Value) (bs : List Int) (wide : Bool) (h : Wr w B G v bs wide) (a : Option Addr) (n cap : Nat) (l : RunL) (hl : RunsIn w a n cap l) (hfar : 0 < n → ∀ b off, a = some ⟨b, off, none⟩ → b ≠ G ∧ v.ownBlock ≠ some b) (hn : bs.length ≤ 5000) (hB : B ≤ w.heap.size) (hG : B ≤ G) :
    Calls Tryz.prog 30 #[.pointer (some ⟨G, 0, none⟩), .slice a n cap] w fun e w' => e = .returned (.tuple #[]) ∧ ∃ W, ListPut w w' B G v bs wide l W := by
  have hle := hl.le
  have hbd := hl.bound
  have hcb := hl.capb
  have hGs : G < w.heap.size := (Array.getElem?_eq_some_iff.1 h.box).1
  obtain ⟨W1, hW1⟩ : ∃ W1, W1 = w.alloc (.cells #[.int .i64 (n : Int)] 3) := ⟨_, rfl⟩
  have hb1 : Below w.heap.size w W1 := by rw [hW1]; exact (Below.refl _ _).alloc (Nat.le_refl _) _
  have hi1 : IntsIn W1 (some ⟨w.heap.size, 0, none⟩) 1 1 [(n : Int)] := by rw [hW1]; exact one_int' w n
  have hs1 := hb1.size
  have K1 := hid (put_any W1 B G v bs wide (h.later hb1) _ 1 1 [(n : Int)] hi1 (fun b off e => by
    injection e with e
    injection e with e
    subst e
    exact ⟨by omega, fun e2 => by have := (h.row.lt _ e2).2; omega⟩) (by omega) (by omega) hG)
  have HL := hid hl
  have HF := hid hfar
  have HLN := hid hl.len
  have HB1 := hid hb1
  have HW1 := hid hW1
  have HROW := hid h.row
  clear hl hfar h hb1 hi1 hW1
  go_enter Tryz.func30, Tryz.ntmps30
  go_wp2_with fail
  rw [← HW1.out]
  refine K1.out.mono ?_
  rintro e w1 ⟨rfl, v1, hw1, hp1⟩
  have HP1 := hid (Puts.pre HB1.out hB hp1)
  have hbs1 : bs ++ [(n : Int)].map u8 = bs ++ ((n : Int) :: numsP (l.take 0)).map u8 := by simp [numsP]
  have hwd1 : (wide || [(n : Int)].any outB) = (wide || outB n || (l.take 0).any outP) := by simp
  rw [hbs1, hwd1] at hw1
  have HW := hid hw1
  clear hw1 hp1 hbs1 hwd1 hs1
  go_wp2_with fail
  go_loopg [13] n (fun gk (p : Value) wr => ∃ (k : Nat) (v' : Value) (bs' : List Int) (W : Bool), p = .int .i64 k ∧ k ≤ n ∧ gk = n - k ∧ (0 < k → n ≤ 255) ∧ Wr wr B G v' bs' W ∧ W = (wide || outB n || (l.take k).any outP) ∧ bs' = bs ++ ((n : Int) :: numsP (l.take k)).map u8 ∧ Puts w wr B G v v')
  case atStart => exact ⟨0, v1, _, _, rfl, by omega, by omega, fun h => by omega, HW.out, rfl, rfl, HP1.out⟩
  case round =>
    obtain ⟨k, v', bs', W, rfl, hk, rfl, h255, hw, hWe, hbe, hp⟩ := hrel
    have hln := HLN.out
    have hbl : bs'.length = bs.length + 1 + 2 * k := by
      rw [hbe, List.length_append, List.length_map, List.length_cons, numsP_len, List.length_take]
      omega
    have HBL := hid hbl
    clear hln hbl
    by_cases hlt : k < n
    · have hlt' : (k : Int) < n := by omega
      obtain ⟨xb, xo, hxa, hcx⟩ := HL.out.cells (by omega)
      obtain ⟨f1, f2⟩ := HF.out (by omega) xb xo hxa
      have hxlt : xb < w.heap.size := block_lt_of_cell (hcx 0 (by omega)).1
      have hsame := hp.blk xb hxlt f1 f2
      have c0 : wr.cell? ⟨xb, xo + k * 2, none⟩ = some (.int .i64 (rAt l k)) := (World.cell?_of_block (w := w) hsame).trans (hcx k hlt).1
      have c1 : wr.cell? ⟨xb, xo + k * 2 + 1, none⟩ = some (.int .i64 (rN l k)) := (World.cell?_of_block (w := w) hsame).trans (hcx k hlt).2
      obtain ⟨x, hx⟩ : ∃ x, rAt l k = x := ⟨_, rfl⟩
      obtain ⟨y, hy⟩ : ∃ y, rN l k = y := ⟨_, rfl⟩
      rw [hx] at c0
      rw [hy] at c1
      obtain ⟨W2, hW2⟩ : ∃ W2, W2 = wr.alloc (.cells #[.int .i64 x, .int .i64 y] 64) := ⟨_, rfl⟩
      have hb2 : Below wr.heap.size wr W2 := by rw [hW2]; exact (Below.refl _ _).alloc (Nat.le_refl _) _
      have hw2 := hw.later hb2
      have b1 : W2.cell? ⟨G, 1, none⟩ = some (.bool W) := by rw [cell_of_row W2 G 1 _ _ _ hw2.box]; rfl
      have hbw := hp.below.size
      have hp2 : Puts w W2 B G v v' := hp.trans (Puts.pre hb2 (by omega) Puts.refl)
      have HX := hid hx
      have HY := hid hy
      have HW2 := hid hW2
      have HWR := hid hw2
      have HPP := hid hp2
      have HWE := hid hWe
      have HBE := hid hbe
      rw [hW2] at b1
      subst hxa
      clear hw hp hcx hx hy hW2 hb2 hw2 hp2 hWe hbe hsame
      cases W with
      | true =>
        go_wp2
        rw [← HW2.out]
        refine bodyPost_ret (results_none rfl _ _ _) rfl ?_
        have hbl := HBL.out
        refine ⟨rfl, true, ⟨v', bs', HWR.out, HPP.out, ?_, nofun⟩, ?_⟩
        · by_cases e : 0 < k
          · have := h255 e; omega
          · omega
        · have h1 := HWE.out
          rw [← HLN.out]
          have h2 : l.any outP = ((l.take k).any outP || (l.drop k).any outP) := by rw [← List.any_append, List.take_append_drop]
          rw [h2, ← Bool.or_assoc, ← h1]
          rfl
      | false =>
        have hn255 : n ≤ 255 := by
          have h1 := HWE.out.symm
          simp only [Bool.or_eq_false_iff] at h1
          have h2 := h1.1.2
          simp only [outB, Bool.or_eq_false_iff, decide_eq_false_iff_not] at h2
          omega
        have KN := hid (numbers_piece W2 x y)
        go_wp2_with fail
        rw [← HW2.out]
        refine KN.out.mono ?_
        rintro e w3 ⟨g3, rfl, hg3, hi3, hb3⟩
        have hw3 := HWR.out.later hb3
        have hgs3 := hb3.size
        have hG3 : G < W2.heap.size := (Array.getElem?_eq_some_iff.1 HWR.out.box).1
        have hpw := HPP.out.below.size
        have K3 := hid (put_any w3 B G v' bs' false hw3 _ 2 2 [x, y] hi3 (fun b off e => by
          injection e with e
          injection e with e
          subst e
          exact ⟨by omega, fun e2 => by have := (HWR.out.row.lt _ e2).2; omega⟩) (by have := HBL.out; omega) (by omega) hG)
        have HP3 := hid (HPP.out.trans (Puts.pre hb3 (by omega) Puts.refl))
        clear hw3 hi3 hb3
        go_wp2_with fail
        refine K3.out.mono ?_
        rintro e w4 ⟨rfl, v4, hw4, hp4⟩
        have HW4 := hid hw4
        have HP4 := hid (HP3.out.trans hp4)
        clear hw4 hp4
        go_wp2
        go_roundg (n - (k + 1))
        case measure => omega
        case rel =>
          have hkl : k < l.length := by have := HLN.out; omega
          refine ⟨k + 1, v4, _, _, by go_num, by omega, by omega, fun _ => hn255, HW4.out, ?_, ?_, HP4.out⟩
          · rw [outP_snoc hkl, HX.out, HY.out, ← Bool.or_assoc, ← HWE.out]
            simp
          · rw [HBE.out, numsP_snoc hkl, HX.out, HY.out]
            simp
    · obtain rfl : k = n := by omega
      have HWR := hid hw
      have HPP := hid hp
      have HWE := hid hWe
      have HBE := hid hbe
      clear hw hp hWe hbe
      go_wp2
      go_end0
      have hln := HLN.out
      have hbl := HBL.out
      have e1 : l.take k = l := by rw [hln, List.take_length]
      refine ⟨rfl, W, ⟨v', bs', HWR.out, HPP.out, ?_, fun _ => ?_⟩, ?_⟩
      · by_cases e : 0 < k
        · have := h255 e; omega
        · omega
      · rw [HBE.out, e1, hln]
      · rw [HWE.out, e1, hln]
set_option maxRecDepth 100000 in
set_option maxHeartbeats 4000000 in
theorem putListRun (w : World) (B G : Nat) (v : Value) (bs : List Int) (wide : Bool) (h : Wr w B G v bs wide) (a : Option Addr) (n cap : Nat) (l : RunL) (hl : RunsIn w a n cap l) (hfar : 0 < n → ∀ b off, a = some ⟨b, off, none⟩ → b ≠ G ∧ v.ownBlock ≠ some b) (hn : bs.length ≤ 5000) (hB : B ≤ w.heap.size) (hG : B ≤ G) :
    Calls Tryz.prog 31 #[.pointer (some ⟨G, 0, none⟩), .slice a n cap] w fun e w' => e = .returned (.tuple #[]) ∧ ∃ W, ListPut w w' B G v bs wide l W := by
  have hle := hl.le
  have hbd := hl.bound
  have hcb := hl.capb
  have hGs : G < w.heap.size := (Array.getElem?_eq_some_iff.1 h.box).1
  obtain ⟨W1, hW1⟩ : ∃ W1, W1 = w.alloc (.cells #[.int .i64 (n : Int)] 3) := ⟨_, rfl⟩
  have hb1 : Below w.heap.size w W1 := by rw [hW1]; exact (Below.refl _ _).alloc (Nat.le_refl _) _
  have hi1 : IntsIn W1 (some ⟨w.heap.size, 0, none⟩) 1 1 [(n : Int)] := by rw [hW1]; exact one_int' w n
  have hs1 := hb1.size
  have K1 := hid (put_any W1 B G v bs wide (h.later hb1) _ 1 1 [(n : Int)] hi1 (fun b off e => by
    injection e with e
    injection e with e
    subst e
    exact ⟨by omega, fun e2 => by have := (h.row.lt _ e2).2; omega⟩) (by omega) (by omega) hG)
  have HL := hid hl
  have HF := hid hfar
  have HLN := hid hl.len
  have HB1 := hid hb1
  have HW1 := hid hW1
  have HROW := hid h.row
  clear hl hfar h hb1 hi1 hW1
  go_enter Tryz.func31, Tryz.ntmps31
  go_wp2_with fail
  rw [← HW1.out]
  refine K1.out.mono ?_
  rintro e w1 ⟨rfl, v1, hw1, hp1⟩
  have HP1 := hid (Puts.pre HB1.out hB hp1)
  have hbs1 : bs ++ [(n : Int)].map u8 = bs ++ ((n : Int) :: numsP (l.take 0)).map u8 := by simp [numsP]
  have hwd1 : (wide || [(n : Int)].any outB) = (wide || outB n || (l.take 0).any outP) := by simp
  rw [hbs1, hwd1] at hw1
  have HW := hid hw1
  clear hw1 hp1 hbs1 hwd1 hs1
  go_wp2_with fail
  go_loopg [13] n (fun gk (p : Value) wr => ∃ (k : Nat) (v' : Value) (bs' : List Int) (W : Bool), p = .int .i64 k ∧ k ≤ n ∧ gk = n - k ∧ (0 < k → n ≤ 255) ∧ Wr wr B G v' bs' W ∧ W = (wide || outB n || (l.take k).any outP) ∧ bs' = bs ++ ((n : Int) :: numsP (l.take k)).map u8 ∧ Puts w wr B G v v')
  case atStart => exact ⟨0, v1, _, _, rfl, by omega, by omega, fun h => by omega, HW.out, rfl, rfl, HP1.out⟩
  case round =>
    obtain ⟨k, v', bs', W, rfl, hk, rfl, h255, hw, hWe, hbe, hp⟩ := hrel
    have hln := HLN.out
    have hbl : bs'.length = bs.length + 1 + 2 * k := by
      rw [hbe, List.length_append, List.length_map, List.length_cons, numsP_len, List.length_take]
      omega
    have HBL := hid hbl
    clear hln hbl
    by_cases hlt : k < n
    · have hlt' : (k : Int) < n := by omega
      obtain ⟨xb, xo, hxa, hcx⟩ := HL.out.cells (by omega)
      obtain ⟨f1, f2⟩ := HF.out (by omega) xb xo hxa
      have hxlt : xb < w.heap.size := block_lt_of_cell (hcx 0 (by omega)).1
      have hsame := hp.blk xb hxlt f1 f2
      have c0 : wr.cell? ⟨xb, xo + k * 2, none⟩ = some (.int .i64 (rAt l k)) := (World.cell?_of_block (w := w) hsame).trans (hcx k hlt).1
      have c1 : wr.cell? ⟨xb, xo + k * 2 + 1, none⟩ = some (.int .i64 (rN l k)) := (World.cell?_of_block (w := w) hsame).trans (hcx k hlt).2
      obtain ⟨x, hx⟩ : ∃ x, rAt l k = x := ⟨_, rfl⟩
      obtain ⟨y, hy⟩ : ∃ y, rN l k = y := ⟨_, rfl⟩
      rw [hx] at c0
      rw [hy] at c1
      obtain ⟨W2, hW2⟩ : ∃ W2, W2 = wr.alloc (.cells #[.int .i64 x, .int .i64 y] 55) := ⟨_, rfl⟩
      have hb2 : Below wr.heap.size wr W2 := by rw [hW2]; exact (Below.refl _ _).alloc (Nat.le_refl _) _
      have hw2 := hw.later hb2
      have b1 : W2.cell? ⟨G, 1, none⟩ = some (.bool W) := by rw [cell_of_row W2 G 1 _ _ _ hw2.box]; rfl
      have hbw := hp.below.size
      have hp2 : Puts w W2 B G v v' := hp.trans (Puts.pre hb2 (by omega) Puts.refl)
      have HX := hid hx
      have HY := hid hy
      have HW2 := hid hW2
      have HWR := hid hw2
      have HPP := hid hp2
      have HWE := hid hWe
      have HBE := hid hbe
      rw [hW2] at b1
      subst hxa
      clear hw hp hcx hx hy hW2 hb2 hw2 hp2 hWe hbe hsame
      cases W with
      | true =>
        go_wp2
        rw [← HW2.out]
        refine bodyPost_ret (results_none rfl _ _ _) rfl ?_
        have hbl := HBL.out
        refine ⟨rfl, true, ⟨v', bs', HWR.out, HPP.out, ?_, nofun⟩, ?_⟩
        · by_cases e : 0 < k
          · have := h255 e; omega
          · omega
        · have h1 := HWE.out
          rw [← HLN.out]
          have h2 : l.any outP = ((l.take k).any outP || (l.drop k).any outP) := by rw [← List.any_append, List.take_append_drop]
          rw [h2, ← Bool.or_assoc, ← h1]
          rfl
      | false =>
        have hn255 : n ≤ 255 := by
          have h1 := HWE.out.symm
          simp only [Bool.or_eq_false_iff] at h1
          have h2 := h1.1.2
          simp only [outB, Bool.or_eq_false_iff, decide_eq_false_iff_not] at h2
          omega
        have KN := hid (numbers_run W2 x y)
        go_wp2_with fail
        rw [← HW2.out]
        refine KN.out.mono ?_
        rintro e w3 ⟨g3, rfl, hg3, hi3, hb3⟩
        have hw3 := HWR.out.later hb3
        have hgs3 := hb3.size
        have hG3 : G < W2.heap.size := (Array.getElem?_eq_some_iff.1 HWR.out.box).1
        have hpw := HPP.out.below.size
        have K3 := hid (put_any w3 B G v' bs' false hw3 _ 2 2 [x, y] hi3 (fun b off e => by
          injection e with e
          injection e with e
          subst e
          exact ⟨by omega, fun e2 => by have := (HWR.out.row.lt _ e2).2; omega⟩) (by have := HBL.out; omega) (by omega) hG)
        have HP3 := hid (HPP.out.trans (Puts.pre hb3 (by omega) Puts.refl))
        clear hw3 hi3 hb3
        go_wp2_with fail
        refine K3.out.mono ?_
        rintro e w4 ⟨rfl, v4, hw4, hp4⟩
        have HW4 := hid hw4
        have HP4 := hid (HP3.out.trans hp4)
        clear hw4 hp4
        go_wp2
        go_roundg (n - (k + 1))
        case measure => omega
        case rel =>
          have hkl : k < l.length := by have := HLN.out; omega
          refine ⟨k + 1, v4, _, _, by go_num, by omega, by omega, fun _ => hn255, HW4.out, ?_, ?_, HP4.out⟩
          · rw [outP_snoc hkl, HX.out, HY.out, ← Bool.or_assoc, ← HWE.out]
            simp
          · rw [HBE.out, numsP_snoc hkl, HX.out, HY.out]
            simp
    · obtain rfl : k = n := by omega
      have HWR := hid hw
      have HPP := hid hp
      have HWE := hid hWe
      have HBE := hid hbe
      clear hw hp hWe hbe
      go_wp2
      go_end0
      have hln := HLN.out
      have hbl := HBL.out
      have e1 : l.take k = l := by rw [hln, List.take_length]
      refine ⟨rfl, W, ⟨v', bs', HWR.out, HPP.out, ?_, fun _ => ?_⟩, ?_⟩
      · by_cases e : 0 < k
        · have := h255 e; omega
        · omega
      · rw [HBE.out, e1, hln]
      · rw [HWE.out, e1, hln]
end Go.Proofs.YtckpdfkobdgjeaaGreatDoor
namespace Go.Proofs.YtckpdfkobdgjeaaGreatDoor
open Go.RowKit
structure Ac where
  kind : Int
  n : Int
  rq : Rq
  ca : Option Addr
  cn : Nat
  cc : Nat
  cs : RunL
def AcIn (w : World) (x : Ac) : Prop := RqIn w x.rq ∧ RunsIn w x.ca x.cn x.cc x.cs
theorem AcIn.later {w w' : World} {x : Ac} (h : AcIn w x) (hb : Below w.heap.size w w') : AcIn w' x := ⟨RqIn.later h.1 hb, h.2.later hb⟩
def acNums (x : Ac) : List Int := [x.kind, x.n, x.rq.queue, x.rq.fr, x.rq.un, x.rq.kind] ++ ((x.rq.ps.length : Int) :: numsP x.rq.ps) ++ ((x.cs.length : Int) :: numsP x.cs)
def wrE (x : Ac) : Int := if (acNums x).any outB = true then 3 else if 3 < x.rq.ps.length ∨ 48 < x.cs.length then 2 else 0
def wrS (x : Ac) : ByteArray := if wrE x = 0 then strOfNums (acNums x) else ByteArray.empty
theorem any_nums (l : RunL) : (numsP l).any outB = l.any outP := by
  unfold numsP
  induction l with
  | nil => rfl
  | cons p l ih => simp [outP, ih, Bool.or_assoc]
theorem any_ac (x : Ac) : (acNums x).any outB = ((((([x.kind, x.n, x.rq.queue, x.rq.fr, x.rq.un, x.rq.kind].any outB || outB x.rq.ps.length) || x.rq.ps.any outP) || outB x.cs.length) || x.cs.any outP)) := by
  unfold acNums
  generalize [x.kind, x.n, x.rq.queue, x.rq.fr, x.rq.un, x.rq.kind] = hd
  simp only [List.any_append, List.any_cons, any_nums, Bool.or_assoc]
theorem u8_in {l : List Int} (h : l.any outB = false) : l.map u8 = l := by
  induction l with
  | nil => rfl
  | cons x l ih =>
    rw [List.any_cons, Bool.or_eq_false_iff] at h
    rw [List.map_cons, ih h.2]
    have h1 := h.1
    simp only [outB, Bool.or_eq_false_iff, decide_eq_false_iff_not] at h1
    congr 1
    unfold u8
    omega
theorem own_string {w : World} {B : Nat} {v : Value} {l : List Int} (h : OwnBytes w B v l) : (convert 72 9 v).run Tryz.prog w = .ok (.string (strOfNums l)) w := by
  rcases h.2 with ⟨rfl, e0⟩ | ⟨g, cap, cur, rfl, _, hg, hle, _, hz, ht⟩
  · obtain rfl : l = [] := List.length_eq_zero_iff.1 e0
    exact run_convert_bytes_nil w 72 5 Tryz.underlying72 Tryz.underlying5 0 0 _ Tryz.underlying9
  · refine run_convert_bytes_arg w 72 5 Tryz.underlying72 Tryz.underlying5 g 0 l.length cap l rfl (fun i hi => ?_) _ Tryz.underlying9
    have hc := World.ownsRow.cellAt (show w.ownsRow B 5 1 (.slice (some ⟨g, 0, none⟩) l.length cap) l.length (l.map (Value.int .u8)) from h) i (by omega)
    rw [Nat.zero_add, hc, List.getElem?_map, List.getElem?_eq_getElem hi]
    simp [List.getD, hi]
theorem Wr.far {w w' : World} {S G : Nat} {v' : Value} {bs : List Int} {wd : Bool} (hw : Wr w' S G v' bs wd) (hS : w.heap.size = S) (hG : S ≤ G) {a : Option Addr} {m k : Nat} {l : RunL} (hr : RunsIn w a m k l) (hm : 0 < m) : ∀ b off, a = some ⟨b, off, none⟩ → b ≠ G ∧ v'.ownBlock ≠ some b := fun b off e => by
  have h1 := hr.lt hm e
  rw [hS] at h1
  exact ⟨by omega, fun e2 => by have := (hw.row.lt b e2).1; omega⟩
set_option maxRecDepth 100000 in
set_option maxHeartbeats 4000000 in
theorem Write_any (w : World) (x : Ac) (h : AcIn w x) :
    Calls Tryz.prog 9 #[.agg #[.int .i64 x.kind, .int .i64 x.n, .int .i64 x.rq.queue, .int .i64 x.rq.fr, .int .i64 x.rq.un, .int .i64 x.rq.kind, .slice x.rq.pa x.rq.pn x.rq.pc, .slice x.ca x.cn x.cc]] w fun e w' => e = .returned (.tuple #[.string (wrS x), .int .i64 (wrE x)]) ∧ Below w.heap.size w w' := by
  obtain ⟨kd, nn, ⟨q, f, u, rk, pa, pn, pc, ps⟩, ca, cn, cc, cs⟩ := x
  have hp : RunsIn w pa pn pc ps := h.1
  have hc : RunsIn w ca cn cc cs := h.2
  obtain ⟨X, hX⟩ : ∃ X : Ac, X = ⟨kd, nn, ⟨q, f, u, rk, pa, pn, pc, ps⟩, ca, cn, cc, cs⟩ := ⟨_, rfl⟩
  rw [show wrS ⟨kd, nn, ⟨q, f, u, rk, pa, pn, pc, ps⟩, ca, cn, cc, cs⟩ = wrS X by rw [hX], show wrE ⟨kd, nn, ⟨q, f, u, rk, pa, pn, pc, ps⟩, ca, cn, cc, cs⟩ = wrE X by rw [hX]]
  obtain ⟨S, hS⟩ : ∃ S, w.heap.size = S := ⟨_, rfl⟩
  obtain ⟨W2, hW2⟩ : ∃ W2, W2 = (w.alloc (.cells #[.int .i64 kd, .int .i64 nn, .int .i64 q, .int .i64 f, .int .i64 u, .int .i64 rk, .slice pa pn pc, .slice ca cn cc] 27)).alloc (.cells #[.slice none 0 0, .bool false] 74) := ⟨_, rfl⟩
  have hb2 : Below w.heap.size w W2 := by rw [hW2]; exact ((Below.refl _ _).alloc (Nat.le_refl _) _).alloc (by simp) _
  have hz2 : W2.heap.size = S + 2 := by rw [hW2]; simp [hS]
  have x1 : W2.heap[S]? = some (.cells #[.int .i64 kd, .int .i64 nn, .int .i64 q, .int .i64 f, .int .i64 u, .int .i64 rk, .slice pa pn pc, .slice ca cn cc] 27 (0, 0)) := by rw [hW2, ← hS]; exact (Below.heap_alloc _ _ _ (by simp)).trans (heap_alloc_new w _)
  have x2 : W2.heap[S + 1]? = some (.cells #[.slice none 0 0, .bool false] 74 (0, 0)) := by
    have := heap_alloc_new (w.alloc (.cells #[.int .i64 kd, .int .i64 nn, .int .i64 q, .int .i64 f, .int .i64 u, .int .i64 rk, .slice pa pn pc, .slice ca cn cc] 27)) (.cells #[.slice none 0 0, .bool false] 74)
    rw [World.size_alloc, hS] at this
    rw [hW2]
    exact this
  obtain ⟨W3, hW3⟩ : ∃ W3, W3 = W2.alloc (.cells #[.int .i64 kd, .int .i64 nn, .int .i64 q, .int .i64 f, .int .i64 u, .int .i64 rk] 3) := ⟨_, rfl⟩
  have hb3 : Below W2.heap.size W2 W3 := by rw [hW3]; exact (Below.refl _ _).alloc (Nat.le_refl _) _
  have hz3 : W3.heap.size = S + 3 := by rw [hW3]; simp [hz2]
  have y3 : W3.heap[S + 2]? = some (.cells #[.int .i64 kd, .int .i64 nn, .int .i64 q, .int .i64 f, .int .i64 u, .int .i64 rk] 3 (0, 0)) := by rw [hW3, ← hz2]; exact heap_alloc_new W2 _
  have hi3 : IntsIn W3 (some ⟨S + 2, 0, none⟩) 6 6 [kd, nn, q, f, u, rk] := by
    refine ⟨rfl, Nat.le_refl _, by omega, fun _ => ⟨S + 2, 0, rfl, fun i hi => ?_⟩⟩
    rw [Nat.zero_add, cell_of_row W3 (S + 2) i _ _ _ y3]
    match i, hi with
    | 0, _ => rfl
    | 1, _ => rfl
    | 2, _ => rfl
    | 3, _ => rfl
    | 4, _ => rfl
    | 5, _ => rfl
  have x13 : W3.heap[S]? = some (.cells #[.int .i64 kd, .int .i64 nn, .int .i64 q, .int .i64 f, .int .i64 u, .int .i64 rk, .slice pa pn pc, .slice ca cn cc] 27 (0, 0)) := (hb3.block S (by omega)).trans x1
  have hwr3 : Wr W3 S (S + 1) (.slice none 0 0) [] false := ⟨(hb3.block (S + 1) (by omega)).trans x2, World.ownsRow_nil _ _ _ _, fun e => by simp [Value.ownBlock] at e⟩
  have K1 := hid (put_any W3 S (S + 1) _ [] false hwr3 _ 6 6 [kd, nn, q, f, u, rk] hi3 (fun b off e => by
    injection e with e
    injection e with e
    exact ⟨by omega, fun e2 => by simp [Value.ownBlock] at e2⟩) (by simp) (by omega) (by omega))
  have hbw : Below S w W3 := by have := below_from hb2 hb3; rw [hS] at this; exact this
  have cc0 : ∀ k, W2.cell? ⟨S, k, none⟩ = #[Value.int .i64 kd, .int .i64 nn, .int .i64 q, .int .i64 f, .int .i64 u, .int .i64 rk, .slice pa pn pc, .slice ca cn cc][k]? := fun k => cell_of_row W2 S k _ _ _ x1
  have a0 : W2.cell? ⟨S, 0, none⟩ = some (.int .i64 kd) := cc0 0
  have a1 : W2.cell? ⟨S, 1, none⟩ = some (.int .i64 nn) := cc0 1
  have a2 : W2.cell? ⟨S, 2, none⟩ = some (.int .i64 q) := cc0 2
  have a3 : W2.cell? ⟨S, 3, none⟩ = some (.int .i64 f) := cc0 3
  have a4 : W2.cell? ⟨S, 4, none⟩ = some (.int .i64 u) := cc0 4
  have a5 : W2.cell? ⟨S, 5, none⟩ = some (.int .i64 rk) := cc0 5
  have HX := hid hX
  have HBW := hid hbw
  have HX13 := hid x13
  have HW3 := hid hW3
  have HP := hid hp
  have HC := hid hc
  have HSS := hid hS
  have HZ3 := hid hz3
  rw [hW2] at a0 a1 a2 a3 a4 a5 hW3
  replace HW3 := hid hW3
  clear hb2 hz2 x1 x2 hb3 hz3 y3 hi3 x13 hwr3 hbw cc0 h hp hc hX hW3 hW2
  go_enter Tryz.func9, Tryz.ntmps9
  go_wp2_with fail
  rw [← HW3.out]
  refine K1.out.mono ?_
  rintro e w1 ⟨rfl, v1, hw1, hp1⟩
  have hB1 : Below S w w1 := HBW.out.trans hp1.below
  have hbw1 : Below w.heap.size w w1 := by rw [HSS.out]; exact hB1
  have hs1 := hp1.below.size
  have z3 := HZ3.out
  have y1 : w1.heap[S]? = some (.cells #[.int .i64 kd, .int .i64 nn, .int .i64 q, .int .i64 f, .int .i64 u, .int .i64 rk, .slice pa pn pc, .slice ca cn cc] 27 (0, 0)) := (hp1.blk S (by omega) (by omega) (fun e => by simp [Value.ownBlock] at e)).trans HX13.out
  have a6 : w1.cell? ⟨S, 6, none⟩ = some (.slice pa pn pc) := by rw [cell_of_row w1 S 6 _ _ _ y1]; rfl
  have hl1 : ([] ++ [kd, nn, q, f, u, rk].map u8).length ≤ 5000 := by simp
  have K2 := hid (putListPiece w1 S (S + 1) v1 _ _ hw1 pa pn pc ps (HP.out.later hbw1) (hw1.far HSS.out (by omega) HP.out) hl1 (by omega) (by omega))
  have HB1 := hid hB1
  have HY1 := hid y1
  have hvS : v1.ownBlock ≠ some S := fun e => by
    rcases hp1.own S e with h1 | h1
    · simp [Value.ownBlock] at h1
    · omega
  have HVS := hid hvS
  clear hw1 hp1 hB1 hbw1 y1 hl1 hvS a0 a1 a2 a3 a4 a5
  go_wp2_with fail
  refine K2.out.mono ?_
  rintro e w2 ⟨rfl, wd2, ⟨v2, bs2, hw2, hp2, hl2, hbs2⟩, hwd2⟩
  have hB2 : Below S w w2 := HB1.out.trans hp2.below
  have hbw2 : Below w.heap.size w w2 := by rw [HSS.out]; exact hB2
  have hs2 := hp2.below.size
  have y2 : w2.heap[S]? = some (.cells #[.int .i64 kd, .int .i64 nn, .int .i64 q, .int .i64 f, .int .i64 u, .int .i64 rk, .slice pa pn pc, .slice ca cn cc] 27 (0, 0)) := (hp2.blk S (by omega) (by omega) HVS.out).trans HY1.out
  have a7 : w2.cell? ⟨S, 7, none⟩ = some (.slice ca cn cc) := by rw [cell_of_row w2 S 7 _ _ _ y2]; rfl
  have K3 := hid (putListRun w2 S (S + 1) v2 bs2 wd2 hw2 ca cn cc cs (HC.out.later hbw2) (hw2.far HSS.out (by omega) HC.out) (by simp at hl2; omega) (by omega) (by omega))
  have HB2 := hid hB2
  have HY2 := hid y2
  have hvS : v2.ownBlock ≠ some S := fun e => by
    rcases hp2.own S e with h1 | h1
    · exact HVS.out h1
    · omega
  have HVS2 := hid hvS
  have HBS2 := hid hbs2
  have HWD2 := hid hwd2
  clear hw2 hp2 hB2 hbw2 y2 hl2 hvS hbs2 hwd2 a6
  go_wp2_with fail
  refine K3.out.mono ?_
  rintro e w3 ⟨rfl, wd3, ⟨v3, bs3, hw3, hp3, hl3, hbs3⟩, hwd3⟩
  have HB3 := hid (HB2.out.trans hp3.below)
  have hs3 := hp3.below.size
  have y3 : w3.heap[S]? = some (.cells #[.int .i64 kd, .int .i64 nn, .int .i64 q, .int .i64 f, .int .i64 u, .int .i64 rk, .slice pa pn pc, .slice ca cn cc] 27 (0, 0)) := (hp3.blk S (by omega) (by omega) HVS2.out).trans HY2.out
  have a6 : w3.cell? ⟨S, 6, none⟩ = some (.slice pa pn pc) := by rw [cell_of_row w3 S 6 _ _ _ y3]; rfl
  have a8 : w3.cell? ⟨S, 7, none⟩ = some (.slice ca cn cc) := by rw [cell_of_row w3 S 7 _ _ _ y3]; rfl
  have b0 : w3.cell? ⟨S + 1, 0, none⟩ = some v3 := by rw [cell_of_row w3 (S + 1) 0 _ _ _ hw3.box]; rfl
  have b1 : w3.cell? ⟨S + 1, 1, none⟩ = some (.bool wd3) := by rw [cell_of_row w3 (S + 1) 1 _ _ _ hw3.box]; rfl
  have hcv := own_string hw3.row
  have hany : (acNums X).any outB = wd3 := by
    rw [HX.out, any_ac, hwd3, HWD2.out]
    simp
  have hlp : ps.length = pn := HP.out.len.symm
  have hlc : cs.length = cn := HC.out.len.symm
  have hE : wrE X = if wd3 = true then 3 else if 3 < pn ∨ 48 < cn then 2 else 0 := by
    unfold wrE
    rw [hany, HX.out]
    simp only [hlp, hlc]
  have hbsx : wd3 = false → bs3 = acNums X := fun hf => by
    have h1 := hbs3 hf
    have h2 : wd2 = false := by
      rw [hwd3] at hf
      simp only [Bool.or_eq_false_iff] at hf
      exact hf.1.1
    rw [h1, HBS2.out h2, ← u8_in (hany.trans hf), HX.out]
    simp [acNums]
  have HE := hid hE
  have HBX := hid hbsx
  have HCV := hid hcv
  clear hw3 hp3 hl3 hbs3 hwd3 y3 hcv hany hlp hlc hE hbsx a7
  cases wd3 with
  | true =>
    have e1 : wrE X = 3 := by rw [HE.out, if_pos rfl]
    have e2 : wrS X = ByteArray.empty := by unfold wrS; rw [e1, if_neg (by decide)]
    have HE1 := hid e1
    have HE2 := hid e2
    clear e1 e2
    go_wp2
    go_ret2
    rw [HE1.out, HE2.out]
    exact ⟨rfl, by rw [HSS.out]; exact HB3.out⟩
  | false =>
    by_cases h3 : 3 < pn
    · have h3' : (3 : Int) < pn := by omega
      have e1 : wrE X = 2 := by rw [HE.out, if_neg (by decide), if_pos (Or.inl h3)]
      have e2 : wrS X = ByteArray.empty := by unfold wrS; rw [e1, if_neg (by decide)]
      have HE1 := hid e1
      have HE2 := hid e2
      clear e1 e2
      go_wp2
      go_ret2
      rw [HE1.out, HE2.out]
      exact ⟨rfl, by rw [HSS.out]; exact HB3.out⟩
    · by_cases h4 : 48 < cn
      · have h3' : ¬ (3 : Int) < pn := by omega
        have h4' : (48 : Int) < cn := by omega
        have e1 : wrE X = 2 := by rw [HE.out, if_neg (by decide), if_pos (Or.inr h4)]
        have e2 : wrS X = ByteArray.empty := by unfold wrS; rw [e1, if_neg (by decide)]
        have HE1 := hid e1
        have HE2 := hid e2
        clear e1 e2
        go_wp2
        go_ret2
        rw [HE1.out, HE2.out]
        exact ⟨rfl, by rw [HSS.out]; exact HB3.out⟩
      · have h3' : ¬ (3 : Int) < pn := by omega
        have h4' : ¬ (48 : Int) < cn := by omega
        have e1 : wrE X = 0 := by rw [HE.out, if_neg (by decide), if_neg (by omega)]
        have e2 : wrS X = strOfNums bs3 := by unfold wrS; rw [e1, if_pos rfl, HBX.out rfl]
        have HE1 := hid e1
        have HE2 := hid e2
        have hcv := HCV.out
        clear e1 e2
        go_wp2
        go_ret2
        rw [HE1.out, HE2.out]
        exact ⟨rfl, by rw [HSS.out]; exact HB3.out⟩
end Go.Proofs.YtckpdfkobdgjeaaGreatDoor
namespace Go.Proofs.YtckpdfkobdgjeaaGreatDoor
open Go.RowKit
def subE (c n : Int) (l : QL) (b : BL) (r : Rq) : Int := if seekE c n l b r = 0 then (if 12 ≤ b.length ∨ 1048576 ≤ n then 2 else if (placeR l b r).2 = true then 0 else 8) else seekE c n l b r
theorem seek_ok {c n : Int} {l : QL} {b : BL} {r : Rq} (h : seekE c n l b r = 0) : planE c n l b = 0 ∧ chkQR l r = 0 ∧ c ≤ r.fr := by
  unfold seekE at h
  split at h
  · rename_i h1
    split at h
    · rename_i h2
      split at h
      · cases h
      · exact ⟨h1, h2, by omega⟩
    · contradiction
  · contradiction
theorem sub_ok {c n : Int} {l : QL} {b : BL} {r : Rq} (h : subE c n l b r = 0) : seekE c n l b r = 0 ∧ b.length < 12 ∧ n < 1048576 ∧ (placeR l b r).2 = true := by
  unfold subE at h
  split at h
  · rename_i h1
    split at h
    · cases h
    · split at h
      · rename_i h2 h3
        exact ⟨h1, by omega, by omega, h3⟩
      · cases h
  · contradiction
theorem three_boxes (w : World) (a b c d : Value) (r : Rq) {W : World} (hW : W = ((w.alloc (.cells #[a, b, c, d] 40)).alloc (.cells #[.int .i64 r.queue, .int .i64 r.fr, .int .i64 r.un, .int .i64 r.kind, .slice r.pa r.pn r.pc] 24)).alloc (.cells #[.int .i64 0, .int .i64 0, .slice none 0 0, .slice none 0 0] 40)) : StBox W w.heap.size a b c d ∧ RqBox W (w.heap.size + 1) r ∧ StBox W (w.heap.size + 2) (.int .i64 0) (.int .i64 0) (.slice none 0 0) (.slice none 0 0) ∧ Below w.heap.size w W ∧ W.heap.size = w.heap.size + 3 := by
  subst hW
  obtain ⟨h1, h2, h3, h4⟩ := two_boxes w a b c d r rfl
  obtain ⟨V, hV⟩ : ∃ V, V = (w.alloc (.cells #[a, b, c, d] 40)).alloc (.cells #[.int .i64 r.queue, .int .i64 r.fr, .int .i64 r.un, .int .i64 r.kind, .slice r.pa r.pn r.pc] 24) := ⟨_, rfl⟩
  rw [← hV] at h1 h2 h3 h4 ⊢
  have hb : Below V.heap.size V (V.alloc (.cells #[.int .i64 0, .int .i64 0, .slice none 0 0, .slice none 0 0] 40)) := (Below.refl _ _).alloc (Nat.le_refl _) _
  refine ⟨h1.later hb, h2.later hb, ?_, below_from h3 hb, by simp; omega⟩
  have := StBox.new V (.int .i64 0) (.int .i64 0) (.slice none 0 0) (.slice none 0 0)
  rw [h4] at this
  exact this
set_option maxRecDepth 100000 in
set_option maxHeartbeats 1000000 in
theorem Submit_wrong (w : World) (c n : Int) (ta : Option Addr) (tn tc : Nat) (l : QL) (ba : Option Addr) (bn bc : Nat) (b : BL) (h : StIn w ta tn tc l ba bn bc b) (r : Rq) (hr : RqIn w r) (hE : seekE c n l b r ≠ 0) :
    Calls Tryz.prog 52 #[.agg #[.int .i64 c, .int .i64 n, .slice ta tn tc, .slice ba bn bc], .agg #[.int .i64 r.queue, .int .i64 r.fr, .int .i64 r.un, .int .i64 r.kind, .slice r.pa r.pn r.pc]] w fun e w' => e = .returned (.tuple #[.agg #[.int .i64 0, .int .i64 0, .slice none 0 0, .slice none 0 0], .int .i64 0, .int .i64 (seekE c n l b r)]) ∧ Below w.heap.size w w' := by
  obtain ⟨S, hS⟩ : ∃ S, w.heap.size = S := ⟨_, rfl⟩
  obtain ⟨W1, hW1⟩ : ∃ W1, W1 = ((w.alloc (.cells #[.int .i64 c, .int .i64 n, .slice ta tn tc, .slice ba bn bc] 40)).alloc (.cells #[.int .i64 r.queue, .int .i64 r.fr, .int .i64 r.un, .int .i64 r.kind, .slice r.pa r.pn r.pc] 24)).alloc (.cells #[.int .i64 0, .int .i64 0, .slice none 0 0, .slice none 0 0] 40) := ⟨_, rfl⟩
  obtain ⟨x1, x2, x3, hb0, hsz⟩ := three_boxes w _ _ _ _ r hW1
  rw [hS] at x1 x2 x3 hsz
  have K1 := seekCheck_any W1 c n ta tn tc l ba bn bc b (h.later hb0) r (RqIn.later hr hb0)
  have X1 := hid x1
  have X2 := hid x2
  have X3 := hid x3
  have HB0 := hid hb0
  have HW1 := hid hW1
  have HS := hid hS
  have HSZ := hid hsz
  obtain ⟨c0, c1, c2, c3⟩ := x1.cells
  obtain ⟨d0, d1, d2, d3, d4⟩ := x2.cells
  clear hW1 x1 x2 x3 hb0 h hr hsz
  obtain ⟨E, hEe⟩ : ∃ E, seekE c n l b r = E := ⟨_, rfl⟩
  rw [hEe] at K1 hE ⊢
  have hne : (E != 0) = true := by simp [hE]
  have HK1 := hid K1
  clear K1 hEe hE
  go_enter Tryz.func52, Tryz.ntmps52
  go_wp2_with fail
  rw [← HW1.out]
  refine HK1.out.mono ?_
  rintro e w1 ⟨rfl, hb⟩
  have HX := hid (X3.out.later hb)
  have HB1 := hid (below_from HB0.out hb)
  clear hb c0 c1 c2 c3 d0 d1 d2 d3 d4
  obtain ⟨y0, y1, y2, y3⟩ := HX.out.cells
  have yf : ∀ k, w1.frozen? ⟨S + 2, k, none⟩ = false := fun k => frozen_of_row w1 (S + 2) k _ _ HX.out
  go_wp2_with fail
  have hst := four_stores w1 (S + 2) 40 _ _ _ _ (.int .i64 0) (.int .i64 0) (.slice none 0 0) (.slice none 0 0) HX.out
  have h4 : w.heap.size ≤ S + 2 := by have := HS.out; omega
  refine bodyPost_ret (v := .tuple #[.agg #[.int .i64 0, .int .i64 0, .slice none 0 0, .slice none 0 0], .int .i64 0, .int .i64 E]) (results_row_tmp2 Tryz.results52 _ _ (S + 2) 40 #[.int .i64 0, .int .i64 0, .slice none 0 0, .slice none 0 0] (0, 0) _ rfl hst.1 Tryz.underlying40 rfl (by kernel_rfl)) rfl ⟨rfl, ?_⟩
  exact ((((HB1.out.setCell (p := ⟨S + 2, 0, none⟩) h4 _).setCell (p := ⟨S + 2, 1, none⟩) h4 _).setCell (p := ⟨S + 2, 2, none⟩) h4 _).setCell (p := ⟨S + 2, 3, none⟩) h4 _)
set_option maxRecDepth 100000 in
set_option maxHeartbeats 1000000 in
theorem Submit_many (w : World) (c n : Int) (ta : Option Addr) (tn tc : Nat) (l : QL) (ba : Option Addr) (bn bc : Nat) (b : BL) (h : StIn w ta tn tc l ba bn bc b) (r : Rq) (hr : RqIn w r) (hE : seekE c n l b r = 0) (hm : 12 ≤ bn ∨ 1048576 ≤ n) :
    Calls Tryz.prog 52 #[.agg #[.int .i64 c, .int .i64 n, .slice ta tn tc, .slice ba bn bc], .agg #[.int .i64 r.queue, .int .i64 r.fr, .int .i64 r.un, .int .i64 r.kind, .slice r.pa r.pn r.pc]] w fun e w' => e = .returned (.tuple #[.agg #[.int .i64 0, .int .i64 0, .slice none 0 0, .slice none 0 0], .int .i64 0, .int .i64 2]) ∧ Below w.heap.size w w' := by
  obtain ⟨S, hS⟩ : ∃ S, w.heap.size = S := ⟨_, rfl⟩
  obtain ⟨W1, hW1⟩ : ∃ W1, W1 = ((w.alloc (.cells #[.int .i64 c, .int .i64 n, .slice ta tn tc, .slice ba bn bc] 40)).alloc (.cells #[.int .i64 r.queue, .int .i64 r.fr, .int .i64 r.un, .int .i64 r.kind, .slice r.pa r.pn r.pc] 24)).alloc (.cells #[.int .i64 0, .int .i64 0, .slice none 0 0, .slice none 0 0] 40) := ⟨_, rfl⟩
  obtain ⟨x1, x2, x3, hb0, hsz⟩ := three_boxes w _ _ _ _ r hW1
  rw [hS] at x1 x2 x3 hsz
  have K1 := seekCheck_any W1 c n ta tn tc l ba bn bc b (h.later hb0) r (RqIn.later hr hb0)
  have X1 := hid x1
  have X2 := hid x2
  have X3 := hid x3
  have HB0 := hid hb0
  have HW1 := hid hW1
  have HS := hid hS
  have HSZ := hid hsz
  obtain ⟨c0, c1, c2, c3⟩ := x1.cells
  obtain ⟨d0, d1, d2, d3, d4⟩ := x2.cells
  clear hW1 x1 x2 x3 hb0 h hr hsz
  rw [hE] at K1
  have HK1 := hid K1
  have HM := hid hm
  clear K1 hE hm
  go_enter Tryz.func52, Tryz.ntmps52
  go_wp2_with fail
  rw [← HW1.out]
  refine HK1.out.mono ?_
  rintro e w1 ⟨rfl, hb⟩
  have HX := hid (X3.out.later hb)
  have HB1 := hid (below_from HB0.out hb)
  have HX1 := hid (X1.out.later hb)
  clear hb c0 c1 c2 c3 d0 d1 d2 d3 d4
  obtain ⟨c0, c1, c2, c3⟩ := HX1.out.cells
  obtain ⟨y0, y1, y2, y3⟩ := HX.out.cells
  have yf : ∀ k, w1.frozen? ⟨S + 2, k, none⟩ = false := fun k => frozen_of_row w1 (S + 2) k _ _ HX.out
  by_cases h12 : (12 : Int) ≤ bn
  · go_wp2_with fail
    have hst := four_stores w1 (S + 2) 40 _ _ _ _ (.int .i64 0) (.int .i64 0) (.slice none 0 0) (.slice none 0 0) HX.out
    have h4 : w.heap.size ≤ S + 2 := by have := HS.out; omega
    refine bodyPost_ret (v := .tuple #[.agg #[.int .i64 0, .int .i64 0, .slice none 0 0, .slice none 0 0], .int .i64 0, .int .i64 2]) (results_row_tmp2 Tryz.results52 _ _ (S + 2) 40 #[.int .i64 0, .int .i64 0, .slice none 0 0, .slice none 0 0] (0, 0) _ rfl hst.1 Tryz.underlying40 rfl (by kernel_rfl)) rfl ⟨rfl, ?_⟩
    exact ((((HB1.out.setCell (p := ⟨S + 2, 0, none⟩) h4 _).setCell (p := ⟨S + 2, 1, none⟩) h4 _).setCell (p := ⟨S + 2, 2, none⟩) h4 _).setCell (p := ⟨S + 2, 3, none⟩) h4 _)
  · have hn : 1048576 ≤ n := by rcases HM.out with h | h <;> omega
    go_wp2_with fail
    have hst := four_stores w1 (S + 2) 40 _ _ _ _ (.int .i64 0) (.int .i64 0) (.slice none 0 0) (.slice none 0 0) HX.out
    have h4 : w.heap.size ≤ S + 2 := by have := HS.out; omega
    refine bodyPost_ret (v := .tuple #[.agg #[.int .i64 0, .int .i64 0, .slice none 0 0, .slice none 0 0], .int .i64 0, .int .i64 2]) (results_row_tmp2 Tryz.results52 _ _ (S + 2) 40 #[.int .i64 0, .int .i64 0, .slice none 0 0, .slice none 0 0] (0, 0) _ rfl hst.1 Tryz.underlying40 rfl (by kernel_rfl)) rfl ⟨rfl, ?_⟩
    exact ((((HB1.out.setCell (p := ⟨S + 2, 0, none⟩) h4 _).setCell (p := ⟨S + 2, 1, none⟩) h4 _).setCell (p := ⟨S + 2, 2, none⟩) h4 _).setCell (p := ⟨S + 2, 3, none⟩) h4 _)
set_option maxRecDepth 100000 in
set_option maxHeartbeats 1000000 in
theorem Submit_full (w : World) (c n : Int) (ta : Option Addr) (tn tc : Nat) (l : QL) (ba : Option Addr) (bn bc : Nat) (b : BL) (h : StIn w ta tn tc l ba bn bc b) (r : Rq) (hr : RqIn w r) (hE : seekE c n l b r = 0) (h12 : (bn : Int) < 12) (hn : n < 1048576) (hp : (placeR l b r).2 = false) :
    Calls Tryz.prog 52 #[.agg #[.int .i64 c, .int .i64 n, .slice ta tn tc, .slice ba bn bc], .agg #[.int .i64 r.queue, .int .i64 r.fr, .int .i64 r.un, .int .i64 r.kind, .slice r.pa r.pn r.pc]] w fun e w' => e = .returned (.tuple #[.agg #[.int .i64 0, .int .i64 0, .slice none 0 0, .slice none 0 0], .int .i64 0, .int .i64 8]) ∧ Below w.heap.size w w' := by
  obtain ⟨S, hS⟩ : ∃ S, w.heap.size = S := ⟨_, rfl⟩
  obtain ⟨W1, hW1⟩ : ∃ W1, W1 = ((w.alloc (.cells #[.int .i64 c, .int .i64 n, .slice ta tn tc, .slice ba bn bc] 40)).alloc (.cells #[.int .i64 r.queue, .int .i64 r.fr, .int .i64 r.un, .int .i64 r.kind, .slice r.pa r.pn r.pc] 24)).alloc (.cells #[.int .i64 0, .int .i64 0, .slice none 0 0, .slice none 0 0] 40) := ⟨_, rfl⟩
  obtain ⟨x1, x2, x3, hb0, hsz⟩ := three_boxes w _ _ _ _ r hW1
  rw [hS] at x1 x2 x3 hsz
  have K1 := seekCheck_any W1 c n ta tn tc l ba bn bc b (h.later hb0) r (RqIn.later hr hb0)
  have X1 := hid x1
  have X2 := hid x2
  have X3 := hid x3
  have HB0 := hid hb0
  have HW1 := hid hW1
  have HS := hid hS
  have HSZ := hid hsz
  obtain ⟨c0, c1, c2, c3⟩ := x1.cells
  obtain ⟨d0, d1, d2, d3, d4⟩ := x2.cells
  have K2 := hid fun X (hX : Below w.heap.size w X) => seekPlace_any X c n ta tn tc l ba bn bc b (h.later hX) r (RqIn.later hr hX)
  clear hW1 x1 x2 x3 hb0 h hr hsz
  rw [hE] at K1
  have HK1 := hid K1
  obtain ⟨A, hA⟩ : ∃ A, placeR l b r = A := ⟨_, rfl⟩
  rw [hA] at K2 hp
  obtain ⟨A1, A2⟩ := A
  simp only at hp
  subst hp
  clear K1 hE hA
  go_enter Tryz.func52, Tryz.ntmps52
  go_wp2_with fail
  rw [← HW1.out]
  refine HK1.out.mono ?_
  rintro e w1 ⟨rfl, hb⟩
  have HB1 := hid (below_from HB0.out hb)
  have HX1 := hid (X1.out.later hb)
  have HX2 := hid (X2.out.later hb)
  have HX3 := hid (X3.out.later hb)
  clear hb c0 c1 c2 c3 d0 d1 d2 d3 d4
  obtain ⟨c0, c1, c2, c3⟩ := HX1.out.cells
  obtain ⟨d0, d1, d2, d3, d4⟩ := HX2.out.cells
  go_wp2_with fail
  refine (K2.out w1 HB1.out).mono ?_
  rintro e w2 ⟨a2, n2, k2, rfl, hR2, hb⟩
  have HX := hid (HX3.out.later hb)
  have HB2 := hid (below_from HB1.out hb)
  clear hb hR2 c0 c1 c2 c3 d0 d1 d2 d3 d4
  obtain ⟨y0, y1, y2, y3⟩ := HX.out.cells
  have yf : ∀ k, w2.frozen? ⟨S + 2, k, none⟩ = false := fun k => frozen_of_row w2 (S + 2) k _ _ HX.out
  go_wp2_with fail
  have hst := four_stores w2 (S + 2) 40 _ _ _ _ (.int .i64 0) (.int .i64 0) (.slice none 0 0) (.slice none 0 0) HX.out
  have h4 : w.heap.size ≤ S + 2 := by have := HS.out; omega
  refine bodyPost_ret (v := .tuple #[.agg #[.int .i64 0, .int .i64 0, .slice none 0 0, .slice none 0 0], .int .i64 0, .int .i64 8]) (results_row_tmp2 Tryz.results52 _ _ (S + 2) 40 #[.int .i64 0, .int .i64 0, .slice none 0 0, .slice none 0 0] (0, 0) _ rfl hst.1 Tryz.underlying40 rfl (by kernel_rfl)) rfl ⟨rfl, ?_⟩
  exact ((((HB2.out.setCell (p := ⟨S + 2, 0, none⟩) h4 _).setCell (p := ⟨S + 2, 1, none⟩) h4 _).setCell (p := ⟨S + 2, 2, none⟩) h4 _).setCell (p := ⟨S + 2, 3, none⟩) h4 _)
end Go.Proofs.YtckpdfkobdgjeaaGreatDoor
