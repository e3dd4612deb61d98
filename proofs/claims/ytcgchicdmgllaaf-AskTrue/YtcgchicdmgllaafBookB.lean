/- Contract of book.Submit. -/
import Derived.Test.YtcgchicdmgllaafBookA
import Derived.Test.YtcgchicdmgllaafBookM
import Derived.Test.YtcgchicdmgllaafAnyD
import Derived.Deep.AppendLies
import Derived.Deep.DeepCutAuto
namespace Go.Proofs.Ytcgchicdmgllaaf
open Go.RowKit

theorem OwnBks.later0 {w w' : World} {B : Nat} {v : Value} {b : BL} (h : OwnBks w B v b) (hb : Below w.heap.size w w') : OwnBks w' B v b := h.later hb
/-- a book was put behind the others, in a row of the call's own: W3 is the world ahead of it; B is another block -/
structure Made (Z W3 : World) (L S B : Nat) (aa : Option Addr) (bn k3 : Nat) (b' : BL) (X : Bk) (g9 k9 : Nat) : Prop where
  own : OwnBks Z S (.slice (some ⟨g9, 0, none⟩) (bn + 1) k9) (b' ++ [X])
  len : bn = b'.length
  ne : g9 ≠ B
  low : S ≤ g9
  blk : ∀ k, k < W3.heap.size → some k ≠ (Value.slice aa bn k3).ownBlock → Z.heap[k]? = W3.heap[k]?
  size : W3.heap.size ≤ Z.heap.size
  offP : ∀ i, i < (b' ++ [X]).length → 0 < (bk (b' ++ [X]) i).rq.pn → ∀ g off, (bk (b' ++ [X]) i).rq.pa = some ⟨g, off, none⟩ → L ≤ g ∧ g ≠ B
  offB : ∀ i, i < (b' ++ [X]).length → 0 < (bk (b' ++ [X]) i).bn → ∀ g off, (bk (b' ++ [X]) i).ba = some ⟨g, off, none⟩ → L ≤ g ∧ g ≠ B
theorem Made.later {Z Y W3 : World} {L S B : Nat} {aa : Option Addr} {bn k3 : Nat} {b' : BL} {X : Bk} {g9 k9 : Nat} (h : Made Z W3 L S B aa bn k3 b' X g9 k9) (hb : Below Z.heap.size Z Y) : Made Y W3 L S B aa bn k3 b' X g9 k9 :=
  ⟨h.own.later hb, h.len, h.ne, h.low, fun k hk hk2 => (hb.block k (by have := h.size; omega)).trans (h.blk k hk hk2), Nat.le_trans h.size hb.size, h.offP, h.offB⟩
theorem made_by (w' W3 : World) (L S B : Nat) (aa : Option Addr) (bn k3 : Nat) (b' : BL) (X : Bk) (gL : Nat) (ty : TypeId) (hO : OwnBks W3 S (.slice aa bn k3) b') (hb : Below W3.heap.size W3 w')
    (hL : w'.heap[gL]? = some (.cells #[.int .i64 X.id, .int .i64 X.rq.queue, .int .i64 X.rq.fr, .int .i64 X.rq.un, .int .i64 X.rq.kind, .slice X.rq.pa X.rq.pn X.rq.pc, .slice X.ba X.bn X.bc] 43 (0, 0)))
    (hbn : bn = b'.length) (h12 : bn ≤ 12) (hS : S ≤ W3.heap.size) (hB : B < W3.heap.size) (hr : RunsIn w' X.rq.pa X.rq.pn X.rq.pc X.rq.ps)
    (hfB : ∀ i, i < b'.length → (0 < (bk b' i).rq.pn → ∀ g off, (bk b' i).rq.pa = some ⟨g, off, none⟩ → L ≤ g ∧ g ≠ B) ∧ (0 < (bk b' i).bn → ∀ g off, (bk b' i).ba = some ⟨g, off, none⟩ → L ≤ g ∧ g ≠ B)) (hLS : L ≤ S)
    (hpn : 0 < X.rq.pn → ∀ b off, X.rq.pa = some ⟨b, off, none⟩ → W3.heap.size ≤ b) (hrow : ∀ g, (Value.slice aa bn k3).ownBlock = some g → g ≠ B ∧ g < W3.heap.size)
    (hXb : 0 < X.bn → ∀ b off, X.ba = some ⟨b, off, none⟩ → (L ≤ b ∧ b ≠ B) ∧ b < W3.heap.size ∧ (Value.slice aa bn k3).ownBlock ≠ some b) (hbt : RunsIn w' X.ba X.bn X.bc X.bs) :
    ∃ g9 k9 w'', (Builtin.append_ #[23, 23] ty #[.slice aa bn k3, .slice (some ⟨gL, 0, none⟩) 1 1]).run Try.prog w' = .ok (.slice (some ⟨g9, 0, none⟩) (bn + 1) k9) w'' ∧ Made w'' W3 L S B aa bn k3 b' X g9 k9 ∧ Below S W3 w'' := by
  subst hbn
  obtain ⟨i0, hi, e⟩ := Option.map_eq_some_iff.1 infoBook
  simp only [Prod.mk.injEq] at e
  obtain ⟨e1, e2, e3⟩ := e
  have hO' := hO.later hb
  obtain ⟨g9, k9, w'', h1, h2, h3, h4, h5⟩ := run_append_lies w' 23 ty S 43 i0 _ 7 88 Try.underlying23 hi e1 e2 e3 (by rfl) (by omega) (.slice aa b'.length k3) b'.length (bkCells b') hO'.row ⟨gL, 0, none⟩ 1 1 (bkCell X) (by simp [bkCell])
    (fun j u hu => by rw [Addr.add_lit, Nat.zero_add, cell_of_row w' gL j _ _ _ hL]; simpa [bkCell] using hu) (fun u hu => bkCells_one [X] u (by simpa [bkCells] using hu)) (by omega) (by simp only [maxLen]; omega) (by omega) (Nat.le_trans hS hb.size) w'.heap.size rfl
  have hlow := h2.lt g9 rfl
  have hg9 : (Value.slice aa b'.length k3).ownBlock = some g9 ∨ w'.heap.size ≤ g9 := by
    rcases h4 with h4 | h4
    · exact Or.inl h4
    · exact Or.inr (by omega)
  have hkeep : ∀ {a : Option Addr} {n cap : Nat} {l : RunL}, RunsIn w' a n cap l → (0 < n → ∀ b off, a = some ⟨b, off, none⟩ → (Value.slice aa b'.length k3).ownBlock ≠ some b) → RunsIn w'' a n cap l := fun h hn => h.of_away fun hp b off e => h3.block b (h.lt hp e) (fun e2 => hn hp b off e e2.symm)
  have hsz := hb.size
  have hXp : 0 < X.rq.pn → ∀ b off, X.rq.pa = some ⟨b, off, none⟩ → (Value.slice aa b'.length k3).ownBlock ≠ some b := fun hp b off e e2 => by have := hpn hp b off e; have := (hrow b e2).2; omega
  refine ⟨g9, k9, w'', h1, ⟨⟨?_, fun i hi => ?_, fun i hi => ?_, fun i hi hp g off e e2 => ?_, fun i hi hp g off e e2 => ?_⟩, rfl, ?_, hlow.1, fun k hk hk2 => ?_, Nat.le_trans hsz h3.size, fun i hi => ?_, fun i hi => ?_⟩, ?_⟩
  · rw [List.length_append, List.length_singleton, bkCells_app]
    have : bkCells [X] = bkCell X := by simp [bkCells]
    rw [this]
    exact h2
  · by_cases e : i < b'.length
    · rw [bk_app e]; exact hkeep (hO'.rqs i e) (hO'.farP i e)
    · obtain rfl : i = b'.length := by simp at hi; omega
      rw [bk_end]; exact hkeep hr hXp
  · by_cases e : i < b'.length
    · rw [bk_app e]; exact hkeep (hO'.bites i e) (hO'.farB i e)
    · obtain rfl : i = b'.length := by simp at hi; omega
      rw [bk_end]; exact hkeep hbt (fun hp b off e => (hXb hp b off e).2.2)
  · have e2 : g9 = g := by simpa [Value.ownBlock] using e2
    subst e2
    by_cases e3 : i < b'.length
    · rw [bk_app e3] at hp e
      rcases hg9 with h | h
      · exact hO'.farP i e3 hp g9 off e h
      · have := RunsIn.lt (hO'.rqs i e3) hp e; omega
    · obtain rfl : i = b'.length := by simp at hi; omega
      rw [bk_end] at hp e
      rcases hg9 with h | h
      · exact hXp hp g9 off e h
      · have := hr.lt hp e; omega
  · have e2 : g9 = g := by simpa [Value.ownBlock] using e2
    subst e2
    by_cases e3 : i < b'.length
    · rw [bk_app e3] at hp e
      rcases hg9 with h | h
      · exact hO'.farB i e3 hp g9 off e h
      · have := (hO'.bites i e3).lt hp e; omega
    · obtain rfl : i = b'.length := by simp at hi; omega
      rw [bk_end] at hp e
      rcases hg9 with h | h
      · exact (hXb hp g9 off e).2.2 h
      · have := hbt.lt hp e; omega
  · rcases hg9 with h | h
    · exact (hrow g9 h).1
    · omega
  · rw [h3.block k (by omega) hk2]
    exact hb.block k hk
  · by_cases e : i < b'.length
    · rw [bk_app e]; exact (hfB i e).1
    · obtain rfl : i = b'.length := by simp at hi; omega
      rw [bk_end]
      intro hp g off e2
      have := hpn hp g off e2
      omega
  · by_cases e : i < b'.length
    · rw [bk_app e]; exact (hfB i e).2
    · obtain rfl : i = b'.length := by simp at hi; omega
      rw [bk_end]
      exact fun hp g off e2 => (hXb hp g off e2).1
  · exact (hb.mono hS).grown h3 (Nat.le_trans hS hsz) (fun k e => (hO'.row.lt k e).1)
/-- and its slice is laid in the state's box B -/
structure Made2 (Z W3 : World) (L S B : Nat) (aa : Option Addr) (bn k3 : Nat) (b' : BL) (X : Bk) (g9 k9 : Nat) (c n : Int) (tv : Value) : Prop where
  own : OwnBks Z S (.slice (some ⟨g9, 0, none⟩) (bn + 1) k9) (b' ++ [X])
  len : bn = b'.length
  low : S ≤ g9
  box : StBox Z B (.int .i64 c) (.int .i64 n) tv (.slice (some ⟨g9, 0, none⟩) (bn + 1) k9)
  blk : ∀ k, k < W3.heap.size → k ≠ B → some k ≠ (Value.slice aa bn k3).ownBlock → Z.heap[k]? = W3.heap[k]?
  size : W3.heap.size ≤ Z.heap.size
  ne : g9 ≠ B
  offP : ∀ i, i < (b' ++ [X]).length → 0 < (bk (b' ++ [X]) i).rq.pn → ∀ g off, (bk (b' ++ [X]) i).rq.pa = some ⟨g, off, none⟩ → L ≤ g ∧ g ≠ B
  offB : ∀ i, i < (b' ++ [X]).length → 0 < (bk (b' ++ [X]) i).bn → ∀ g off, (bk (b' ++ [X]) i).ba = some ⟨g, off, none⟩ → L ≤ g ∧ g ≠ B
theorem Made2.later {Z Y W3 : World} {L S B : Nat} {aa : Option Addr} {bn k3 : Nat} {b' : BL} {X : Bk} {g9 k9 : Nat} {c n : Int} {tv : Value} (h : Made2 Z W3 L S B aa bn k3 b' X g9 k9 c n tv) (hb : Below Z.heap.size Z Y) : Made2 Y W3 L S B aa bn k3 b' X g9 k9 c n tv :=
  ⟨h.own.later hb, h.len, h.low, h.box.later hb, fun k hk hk2 hk3 => (hb.block k (by have := h.size; omega)).trans (h.blk k hk hk2 hk3), Nat.le_trans h.size hb.size, h.ne, h.offP, h.offB⟩
theorem Made.store {Z W3 : World} {L S B : Nat} {aa : Option Addr} {bn k3 : Nat} {b' : BL} {X : Bk} {g9 k9 : Nat} (h : Made Z W3 L S B aa bn k3 b' X g9 k9) (hb : Below S W3 Z) {c n : Int} {tv : Value} (hx : StBox W3 B (.int .i64 c) (.int .i64 n) tv (.slice aa bn k3) ∧ some B ≠ (Value.slice aa bn k3).ownBlock) (hB : S ≤ B ∧ B < W3.heap.size) :
    Made2 (Z.setCell ⟨B, 3, none⟩ (.slice (some ⟨g9, 0, none⟩) (bn + 1) k9)) W3 L S B aa bn k3 b' X g9 k9 c n tv ∧ Z.cell? ⟨B, 3, none⟩ = some (.slice aa bn k3) ∧ Z.frozen? ⟨B, 3, none⟩ = false ∧ Below S W3 (Z.setCell ⟨B, 3, none⟩ (.slice (some ⟨g9, 0, none⟩) (bn + 1) k9)) := by
  have hz : StBox Z B (.int .i64 c) (.int .i64 n) tv (.slice aa bn k3) := (h.blk B hB.2 hx.2).trans hx.1
  refine ⟨⟨?_, h.len, h.low, ?_, fun k hk hk2 hk3 => ?_, ?_, h.ne, h.offP, h.offB⟩, hz.cells.2.2.2, frozen_of_row Z B 3 _ _ hz, hb.setCell (p := ⟨B, 3, none⟩) hB.1 _⟩
  · refine h.own.blocks (fun g e => heap_setCell_other Z ⟨B, 3, none⟩ g _ ?_) (fun i hi hp g off e => heap_setCell_other Z ⟨B, 3, none⟩ g _ (h.offP i hi hp g off e).2) (fun i hi hp g off e => heap_setCell_other Z ⟨B, 3, none⟩ g _ (h.offB i hi hp g off e).2)
    have e : g9 = g := by simpa [Value.ownBlock] using e
    subst e
    exact h.ne
  · unfold StBox
    rw [heap_setCell_same Z B 3 _ _ _ hz]
    rfl
  · rw [heap_setCell_other Z ⟨B, 3, none⟩ k _ hk2]
    exact h.blk k hk hk3
  · have := h.size
    simp only [World.setCell, Array.size_modify]
    omega
end Go.Proofs.Ytcgchicdmgllaaf
