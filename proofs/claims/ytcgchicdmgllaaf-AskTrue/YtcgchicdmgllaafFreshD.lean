/- Contract of fresh.State: the same state, in memory of the call's own. -/
import Derived.Test.YtcgchicdmgllaafFreshC
import Derived.Test.YtcgchicdmgllaafAnyS
namespace Go.Proofs.Ytcgchicdmgllaaf
open Go.RowKit

theorem OwnQs.blocks {w w' : World} {B : Nat} {v : Value} {l : QL} (h : OwnQs w B v l) (hn : ∀ i, i < l.length → 0 < (qu l i).cn → ∀ b off, (qu l i).ca = some ⟨b, off, none⟩ → B ≤ b) (hb : ∀ k, B ≤ k → k < w.heap.size → w'.heap[k]? = w.heap[k]?) : OwnQs w' B v l := by
  refine ⟨?_, fun i hi => (h.caps i hi).of_away fun hp b off e => hb b (hn i hi hp b off e) ((h.caps i hi).lt hp e), h.far, h.names⟩
  refine ⟨h.row.1, ?_⟩
  rcases h.row.2 with hz | ⟨g, cap, cur, rfl, hB, hg, rest⟩
  · exact .inl hz
  · exact .inr ⟨g, cap, cur, rfl, hB, (hb g hB (Array.getElem?_eq_some_iff.1 hg).1).trans hg, rest⟩
theorem OwnQs.base {w : World} {B B' : Nat} {v : Value} {l : QL} (h : OwnQs w B v l) (hB : B' ≤ B) : OwnQs w B' v l := by
  refine ⟨⟨h.row.1, ?_⟩, h.caps, h.far, h.names⟩
  rcases h.row.2 with hz | ⟨g, cap, cur, rfl, h1, rest⟩
  · exact .inl hz
  · exact .inr ⟨g, cap, cur, rfl, by omega, rest⟩
theorem OwnBks.base {w : World} {B B' : Nat} {v : Value} {b : BL} (h : OwnBks w B v b) (hB : B' ≤ B) : OwnBks w B' v b := by
  refine ⟨⟨h.row.1, ?_⟩, h.rqs, h.bites, h.farP, h.farB⟩
  rcases h.row.2 with hz | ⟨g, cap, cur, rfl, h1, rest⟩
  · exact .inl hz
  · exact .inr ⟨g, cap, cur, rfl, by omega, rest⟩
/-- a state that the call made: no row lies where another does -/
structure OwnSt (w : World) (B : Nat) (tv : Value) (l : QL) (bv : Value) (b : BL) : Prop where
  qs : OwnQs w B tv l
  bks : OwnBks w B bv b
  apart : ∀ gb, bv.ownBlock = some gb → tv.ownBlock ≠ some gb ∧ ∀ i, i < l.length → 0 < (qu l i).cn → ∀ g off, (qu l i).ca = some ⟨g, off, none⟩ → g ≠ gb
  newC : ∀ i, i < l.length → 0 < (qu l i).cn → ∀ g off, (qu l i).ca = some ⟨g, off, none⟩ → B ≤ g
  newP : ∀ i, i < b.length → 0 < (bk b i).rq.pn → ∀ g off, (bk b i).rq.pa = some ⟨g, off, none⟩ → B ≤ g
  newB : ∀ i, i < b.length → 0 < (bk b i).bn → ∀ g off, (bk b i).ba = some ⟨g, off, none⟩ → B ≤ g
theorem four_stores (w : World) (G : Nat) (t : TypeId) (x0 x1 x2 x3 a b c d : Value) (h : w.heap[G]? = some (.cells #[x0, x1, x2, x3] t (0, 0))) :
    ((((w.setCell ⟨G, 0, none⟩ a).setCell ⟨G, 1, none⟩ b).setCell ⟨G, 2, none⟩ c).setCell ⟨G, 3, none⟩ d).heap[G]? = some (.cells #[a, b, c, d] t (0, 0)) ∧
    ∀ k, k ≠ G → ((((w.setCell ⟨G, 0, none⟩ a).setCell ⟨G, 1, none⟩ b).setCell ⟨G, 2, none⟩ c).setCell ⟨G, 3, none⟩ d).heap[k]? = w.heap[k]? := by
  have h0 := heap_setCell_same w G 0 _ t a h
  have h1 := heap_setCell_same _ G 1 _ t b h0
  have h2 := heap_setCell_same _ G 2 _ t c h1
  have h3 := heap_setCell_same _ G 3 _ t d h2
  refine ⟨h3, fun k hk => ?_⟩
  rw [heap_setCell_other _ ⟨G, 3, none⟩ k _ hk, heap_setCell_other _ ⟨G, 2, none⟩ k _ hk, heap_setCell_other _ ⟨G, 1, none⟩ k _ hk, heap_setCell_other _ ⟨G, 0, none⟩ k _ hk]
theorem OwnBks.blocks {w w' : World} {B : Nat} {v : Value} {b : BL} (h : OwnBks w B v b) (h0 : ∀ g, v.ownBlock = some g → w'.heap[g]? = w.heap[g]?) (h1 : ∀ i, i < b.length → 0 < (bk b i).rq.pn → ∀ g off, (bk b i).rq.pa = some ⟨g, off, none⟩ → w'.heap[g]? = w.heap[g]?) (h2 : ∀ i, i < b.length → 0 < (bk b i).bn → ∀ g off, (bk b i).ba = some ⟨g, off, none⟩ → w'.heap[g]? = w.heap[g]?) : OwnBks w' B v b := by
  refine ⟨⟨h.row.1, ?_⟩, fun i hi => RunsIn.of_away (h.rqs i hi) (h1 i hi), fun i hi => (h.bites i hi).of_away (h2 i hi), h.farP, h.farB⟩
  rcases h.row.2 with hz | ⟨g, cap, cur, rfl, hB, hg, rest⟩
  · exact .inl hz
  · exact .inr ⟨g, cap, cur, rfl, hB, (h0 g rfl).trans hg, rest⟩
/-- how much of a state there is -/
structure Modest (tn : Nat) (l : QL) (bn : Nat) (b : BL) : Prop where
  t0 : 0 < tn
  t1 : tn ≤ 1000
  caps : ∀ i, i < tn → (qu l i).cn ≤ 1000
  b1 : bn ≤ 1000
  ps : ∀ i, i < bn → (bk b i).rq.pn ≤ 1000
  bs : ∀ i, i < bn → (bk b i).bn ≤ 1000

set_option maxRecDepth 100000 in
set_option maxHeartbeats 4000000 in
theorem State_any (w : World) (c n : Int) (ta : Option Addr) (tn tc : Nat) (l : QL) (ba : Option Addr) (bn bc : Nat) (b : BL) (h : StIn w ta tn tc l ba bn bc b) (hm : Modest tn l bn b) :
    Calls Try.prog 17 #[.agg #[.int .i64 c, .int .i64 n, .slice ta tn tc, .slice ba bn bc]] w fun e w' => ∃ g k1 l' aa k3 b', e = .returned (.agg #[.int .i64 c, .int .i64 n, .slice (some ⟨g, 0, none⟩) tn k1, .slice aa bn k3]) ∧ OwnSt w' w.heap.size (.slice (some ⟨g, 0, none⟩) tn k1) l' (.slice aa bn k3) b' ∧ tn = l'.length ∧ bn = b'.length ∧ bareQ l' = bareQ l ∧ bareB b' = bareB b ∧ Below w.heap.size w w' := by
  obtain ⟨S, hS⟩ : ∃ S, w.heap.size = S := ⟨_, rfl⟩
  obtain ⟨W1, hW1⟩ : ∃ W1, W1 = (w.alloc (.cells #[.int .i64 c, .int .i64 n, .slice ta tn tc, .slice ba bn bc] 25)).alloc (.cells #[.int .i64 0, .int .i64 0, .slice none 0 0, .slice none 0 0] 25) := ⟨_, rfl⟩
  have hb0 : Below w.heap.size w W1 := by rw [hW1]; exact ((Below.refl _ _).alloc (Nat.le_refl _) _).alloc (by simp) _
  have hbx : W1.heap[S]? = some (.cells #[.int .i64 c, .int .i64 n, .slice ta tn tc, .slice ba bn bc] 25 (0, 0)) := by rw [hW1, ← hS]; exact (Below.heap_alloc _ _ _ (by simp)).trans (heap_alloc_new w _)
  have hrs : W1.heap[S + 1]? = some (.cells #[.int .i64 0, .int .i64 0, .slice none 0 0, .slice none 0 0] 25 (0, 0)) := by
    have := heap_alloc_new (w.alloc (.cells #[.int .i64 c, .int .i64 n, .slice ta tn tc, .slice ba bn bc] 25)) (.cells #[.int .i64 0, .int .i64 0, .slice none 0 0, .slice none 0 0] 25)
    rw [World.size_alloc, hS] at this
    rw [hW1]
    exact this
  have hsz : W1.heap.size = S + 2 := by rw [hW1, ← hS]; simp
  have K := Queues_any W1 ta tn tc l (h.1.later hb0) hm.t0 hm.t1 hm.caps
  have HK := hid K
  have HW1 := hid hW1
  have HB0 := hid hb0
  have HBX := hid hbx
  have HRS := hid hrs
  have HSZ := hid hsz
  have HS := hid hS
  have HBK := hid h.2
  have HM := hid hm
  have c2 : W1.cell? ⟨S, 2, none⟩ = some (.slice ta tn tc) := by rw [cell_of_row W1 S 2 _ _ _ hbx]; rfl
  clear K hW1 hb0 hbx hrs hsz h hm
  go_enter Try.func17, Try.ntmps17
  go_wp2_with fail
  rw [← HW1.out]
  refine HK.out.mono ?_
  rintro e w2 ⟨g, k1, l', rfl, hO, hl', hbare, hb, hle, hnc⟩
  have X0 : w2.heap[S]? = some (.cells #[.int .i64 c, .int .i64 n, .slice ta tn tc, .slice ba bn bc] 25 (0, 0)) := by rw [hb.block S (by have := HSZ.out; omega)]; exact HBX.out
  have X1 : w2.heap[S + 1]? = some (.cells #[.int .i64 0, .int .i64 0, .slice none 0 0, .slice none 0 0] 25 (0, 0)) := by rw [hb.block (S + 1) (by have := HSZ.out; omega)]; exact HRS.out
  have d0 : w2.cell? ⟨S, 0, none⟩ = some (.int .i64 c) := by rw [cell_of_row w2 S 0 _ _ _ X0]; rfl
  have d1 : w2.cell? ⟨S, 1, none⟩ = some (.int .i64 n) := by rw [cell_of_row w2 S 1 _ _ _ X0]; rfl
  have d2 : w2.cell? ⟨S, 2, none⟩ = some (.slice ta tn tc) := by rw [cell_of_row w2 S 2 _ _ _ X0]; rfl
  have d3 : w2.cell? ⟨S, 3, none⟩ = some (.slice ba bn bc) := by rw [cell_of_row w2 S 3 _ _ _ X0]; rfl
  have df : ∀ k, w2.frozen? ⟨S, k, none⟩ = false := fun k => frozen_of_row w2 S k _ _ X0
  obtain ⟨W2, hW2⟩ : ∃ W2, W2 = w2.setCell ⟨S, 2, none⟩ (.slice (some ⟨g, 0, none⟩) tn k1) := ⟨_, rfl⟩
  have hsz2 : W2.heap.size = w2.heap.size := by rw [hW2]; simp [World.setCell]
  have hbW2 : Below w.heap.size w W2 := by rw [hW2]; exact (below_from HB0.out hb).setCell (p := ⟨S, 2, none⟩) (by simp only; omega) _
  have Y0 : W2.heap[S]? = some (.cells #[.int .i64 c, .int .i64 n, .slice (some ⟨g, 0, none⟩) tn k1, .slice ba bn bc] 25 (0, 0)) := by rw [hW2, heap_setCell_same w2 S 2 _ 25 _ X0]; rfl
  have Y1 : W2.heap[S + 1]? = some (.cells #[.int .i64 0, .int .i64 0, .slice none 0 0, .slice none 0 0] 25 (0, 0)) := by rw [hW2, heap_setCell_other w2 ⟨S, 2, none⟩ (S + 1) _ (by simp)]; exact X1
  have hg2 : S + 2 ≤ g ∧ g < w2.heap.size := by
    have h1 := hO.row.lt g rfl
    have := HSZ.out
    omega
  have hOW2 : OwnQs W2 (S + 2) (.slice (some ⟨g, 0, none⟩) tn k1) l' := by
    have h1 := hO
    rw [HSZ.out] at h1
    refine h1.blocks (fun i hi hp b off e => by have := hnc i (by omega) hp b off e; have := HSZ.out; omega) fun k hk1 hk2 => ?_
    rw [hW2]
    exact heap_setCell_other w2 ⟨S, 2, none⟩ k _ (by simp only; omega)
  have K2 := CloneBks_row W2 ba bn bc (bkCells b) (by rw [bkCells_length, HBK.out.len]) HM.out.b1 (fun ad e j u hu => by
      subst e
      by_cases hp : 0 < bn
      · obtain ⟨bb, bo, e2, _⟩ := HBK.out.cells hp
        injection e2 with e2
        subst e2
        rw [Addr.add_lit]
        exact (HBK.out.later hbW2).list j u hu
      · have := HBK.out.len
        have hb' : b = [] := List.length_eq_zero_iff.1 (by omega)
        rw [hb'] at hu
        simp [bkCells] at hu) (bkCells_one b) (fun e => by
      subst e
      by_cases hp : 0 < bn
      · obtain ⟨bb, bo, e2, _⟩ := HBK.out.cells hp
        cases e2
      · omega)
  have HK2 := hid K2
  have HO2 := hid hOW2
  have HBW2 := hid hbW2
  have HY0 := hid Y0
  have HY1 := hid Y1
  have HL' := hid hl'
  have HBA := hid hbare
  have HNC := hid hnc
  have HW2 := hid hW2
  have HSZ2 := hid hsz2
  have HSZW : Hid (S + 2 ≤ w2.heap.size) := by have := hb.size; have := HSZ.out; show S + 2 ≤ w2.heap.size; omega
  clear K2 hO hl' hbare hb hnc hW2 hOW2 hbW2 Y0 Y1 X0 X1 c2 hsz2
  go_wp2_with fail
  rw [← HW2.out]
  refine HK2.out.mono ?_
  rintro e w3 ⟨v3, rfl, hO3, hb3⟩
  obtain ⟨aa, k3, gb, rfl, hdis, haa, hk3, hk3b, hnb⟩ : ∃ aa k3 gb, v3 = .slice aa bn k3 ∧ (aa = none ∨ aa = some ⟨gb, 0, none⟩) ∧ (0 < bn → aa = some ⟨gb, 0, none⟩) ∧ bn ≤ k3 ∧ k3 ≤ 9223372036854775807 ∧ (∀ b off, aa = some ⟨b, off, none⟩ → W2.heap.size ≤ b ∧ b < w3.heap.size ∧ b = gb) := by
    rcases hO3.2 with ⟨rfl, e0⟩ | ⟨gb, cap, cur, rfl, hB, hg, hle, hmx, _, _⟩
    · exact ⟨none, 0, 0, by rw [e0], Or.inl rfl, fun hp => by omega, by omega, by omega, fun b off e => by cases e⟩
    · refine ⟨some ⟨gb, 0, none⟩, cap, gb, rfl, Or.inr rfl, fun _ => rfl, hle, by simpa [maxLen] using hmx, fun b off e => ?_⟩
      injection e with e
      injection e with e1 e2
      have := (Array.getElem?_eq_some_iff.1 hg).1
      exact ⟨by omega, by omega, e1.symm⟩
  have Z0 : w3.heap[S]? = some (.cells #[.int .i64 c, .int .i64 n, .slice (some ⟨g, 0, none⟩) tn k1, .slice ba bn bc] 25 (0, 0)) := by rw [hb3.block S (by have := HSZ2.out; have := HSZW.out; omega)]; exact HY0.out
  have Z1 : w3.heap[S + 1]? = some (.cells #[.int .i64 0, .int .i64 0, .slice none 0 0, .slice none 0 0] 25 (0, 0)) := by rw [hb3.block (S + 1) (by have := HSZ2.out; have := HSZW.out; omega)]; exact HY1.out
  have f0 : w3.cell? ⟨S, 0, none⟩ = some (.int .i64 c) := by rw [cell_of_row w3 S 0 _ _ _ Z0]; rfl
  have f1 : w3.cell? ⟨S, 1, none⟩ = some (.int .i64 n) := by rw [cell_of_row w3 S 1 _ _ _ Z0]; rfl
  have f2 : w3.cell? ⟨S, 2, none⟩ = some (.slice (some ⟨g, 0, none⟩) tn k1) := by rw [cell_of_row w3 S 2 _ _ _ Z0]; rfl
  have f3 : w3.cell? ⟨S, 3, none⟩ = some (.slice ba bn bc) := by rw [cell_of_row w3 S 3 _ _ _ Z0]; rfl
  have ff : ∀ k, w3.frozen? ⟨S, k, none⟩ = false := fun k => frozen_of_row w3 S k _ _ Z0
  obtain ⟨W4, hW4⟩ : ∃ W4, W4 = w3.setCell ⟨S, 3, none⟩ (.slice aa bn k3) := ⟨_, rfl⟩
  have U0 : W4.heap[S]? = some (.cells #[.int .i64 c, .int .i64 n, .slice (some ⟨g, 0, none⟩) tn k1, .slice aa bn k3] 25 (0, 0)) := by rw [hW4, heap_setCell_same w3 S 3 _ 25 _ Z0]; rfl
  have U1 : W4.heap[S + 1]? = some (.cells #[.int .i64 0, .int .i64 0, .slice none 0 0, .slice none 0 0] 25 (0, 0)) := by rw [hW4, heap_setCell_other w3 ⟨S, 3, none⟩ (S + 1) _ (by simp)]; exact Z1
  have hsz4 : W4.heap.size = w3.heap.size := by rw [hW4]; simp [World.setCell]
  have hbW4 : Below w.heap.size w W4 := by rw [hW4]; exact (below_from HBW2.out hb3).setCell (p := ⟨S, 3, none⟩) (by simp only; omega) _
  have hO4 : OwnQs W4 (S + 2) (.slice (some ⟨g, 0, none⟩) tn k1) l' := by
    refine HO2.out.blocks (fun i hi hp b off e => by have := HNC.out i (by have := HL'.out; omega) hp b off e; have := HSZ.out; omega) fun k hk1 hk2 => ?_
    rw [hW4, heap_setCell_other w3 ⟨S, 3, none⟩ k _ (by simp only; omega)]
    exact hb3.block k hk2
  have hB4 : OwnBks W4 W2.heap.size (.slice aa bn k3) b := by
    have hlen := HBK.out.len
    have hr3 : w3.ownsRow W2.heap.size 43 7 (.slice aa bn k3) b.length (bkCells b) := by rw [← hlen]; exact hO3
    have hold : ∀ k, k < S → W4.heap[k]? = w.heap[k]? := fun k hk => hbW4.block k (by omega)
    refine ⟨?_, fun i hi => RunsIn.later (HBK.out.rqs i (by omega)) hbW4, fun i hi => (HBK.out.bites i (by omega)).later hbW4, fun i hi hp g' off e e2 => ?_, fun i hi hp g' off e e2 => ?_⟩
    · refine ⟨hr3.1, ?_⟩
      rcases hr3.2 with hz | ⟨g', cap, cur, e1, hB, hg', rest⟩
      · exact .inl hz
      · refine .inr ⟨g', cap, cur, e1, hB, ?_, rest⟩
        rw [hW4, heap_setCell_other w3 ⟨S, 3, none⟩ g' _ (by have := HSZ2.out; have := HSZW.out; simp only; omega)]
        exact hg'
    · have h1 := RunsIn.lt (HBK.out.rqs i (by omega)) hp e
      cases aa with
      | none => cases e2
      | some ad =>
        obtain ⟨b1, o1, p1⟩ := ad
        simp only [Value.ownBlock, Option.some.injEq] at e2
        subst e2
        have hp1 : p1 = none := by
          have := haa (by omega)
          injection this with this
          injection this
        subst hp1
        have := hnb b1 o1 rfl
        have := HSZ2.out
        have := HSZW.out
        omega
    · have h1 := (HBK.out.bites i (by omega)).lt hp e
      cases aa with
      | none => cases e2
      | some ad =>
        obtain ⟨b1, o1, p1⟩ := ad
        simp only [Value.ownBlock, Option.some.injEq] at e2
        subst e2
        have hp1 : p1 = none := by
          have := haa (by omega)
          injection this with this
          injection this
        subst hp1
        have := hnb b1 o1 rfl
        have := HSZ2.out
        have := HSZW.out
        omega
  have HU0 := hid U0
  have HU1 := hid U1
  have HO4 := hid hO4
  have HB4 := hid hB4
  have HBW4 := hid hbW4
  have HW4 := hid hW4
  have HAA := hid haa
  have HNB := hid hnb
  have HDIS := hid hdis
  have HS4 : Hid (w2.heap.size ≤ W4.heap.size) := by have := hb3.size; have := HSZ2.out; show w2.heap.size ≤ W4.heap.size; omega
  have HN4 : Hid (∀ b off, aa = some ⟨b, off, none⟩ → b < W4.heap.size) := fun b off e => by have := (HNB.out b off e).2.1; omega
  clear hO3 hb3 haa hnb hdis Z0 Z1 U0 U1 hsz4 hbW4 hO4 hB4 hW4 d0 d1 d2 d3 df
  go_wp2_with fail
  rw [← HW4.out]
  go_loopw [3, 4, 16] (fun _ _ st wr => ∃ (i : Nat) (b' : BL), st = .int .i64 i ∧ i ≤ bn ∧ bn = b'.length ∧ bareB b' = bareB b ∧ OwnBks wr W2.heap.size (.slice aa bn k3) b' ∧ (∀ j, i ≤ j → j < bn → bk b' j = bk b j) ∧ (∀ j, j < i → (∀ g off, (bk b' j).rq.pa = some ⟨g, off, none⟩ → S + 2 ≤ g) ∧ ∀ g off, (bk b' j).ba = some ⟨g, off, none⟩ → S + 2 ≤ g) ∧ (∀ k, k < W4.heap.size → k ≠ gb ∨ bn = 0 → wr.heap[k]? = W4.heap[k]?) ∧ W4.heap.size ≤ wr.heap.size ∧ Below w.heap.size w wr) (fun _ _ st _ => bn - (intOf st).toNat)
  case atStart => exact ⟨0, b, rfl, by omega, HBK.out.len, rfl, HB4.out, fun _ _ _ => rfl, fun j hj => by omega, fun _ _ _ => rfl, Nat.le_refl _, HBW4.out⟩
  case round =>
    obtain ⟨i, b', rfl, hi, hl', hbare, hO', hold, hnew, hblk, hszr, hbel⟩ := hrel
    have HL5' := hid hl'
    have HBA' := hid hbare
    have HO' := hid hO'
    have HOLD := hid hold
    have HNEW := hid hnew
    have HBLK := hid hblk
    have HBL := hid hbel
    clear hl' hbare hO' hold hnew hblk hbel
    by_cases hlt : i < bn
    · have hlt' : (i : Int) < bn := by omega
      have hlt2 : i < b'.length := by have := HL5'.out; omega
      obtain rfl := HAA.out (by omega)
      have hX := HOLD.out i (Nat.le_refl _) hlt
      have hrow := HO'.out.row
      rw [← HL5'.out] at hrow
      have hcell : ∀ k, k < 7 → wr.cell? ⟨gb, i * 7 + k, none⟩ = (bkCell (bk b i))[k]? := fun k hk => by rw [hrow.cellAt (i * 7 + k) (by omega), bkCells_at b' i k hlt2 hk, hX]
      obtain ⟨X, hXX⟩ : ∃ X, bk b i = X := ⟨_, rfl⟩
      rw [hXX] at hcell hX
      have HXB := hid hXX
      have x0 : wr.cell? ⟨gb, i * 7, none⟩ = some (.int .i64 X.id) := hcell 0 (by omega)
      have x1 : wr.cell? ⟨gb, i * 7 + 1, none⟩ = some (.int .i64 X.rq.queue) := hcell 1 (by omega)
      have x2 : wr.cell? ⟨gb, i * 7 + 2, none⟩ = some (.int .i64 X.rq.fr) := hcell 2 (by omega)
      have x3 : wr.cell? ⟨gb, i * 7 + 3, none⟩ = some (.int .i64 X.rq.un) := hcell 3 (by omega)
      have x4 : wr.cell? ⟨gb, i * 7 + 4, none⟩ = some (.int .i64 X.rq.kind) := hcell 4 (by omega)
      have x5 : wr.cell? ⟨gb, i * 7 + 5, none⟩ = some (.slice X.rq.pa X.rq.pn X.rq.pc) := hcell 5 (by omega)
      have x6 : wr.cell? ⟨gb, i * 7 + 6, none⟩ = some (.slice X.ba X.bn X.bc) := hcell 6 (by omega)
      have hgb := (HNB.out gb 0 rfl)
      have hgb4 := HN4.out gb 0 rfl
      have hSb : S ≠ gb := by have := HSZ2.out; have := HSZW.out; omega
      have hSr : wr.heap[S]? = some (.cells #[.int .i64 c, .int .i64 n, .slice (some ⟨g, 0, none⟩) tn k1, .slice (some ⟨gb, 0, none⟩) bn k3] 25 (0, 0)) := by rw [HBLK.out S (by have := HS4.out; have := HSZW.out; omega) (Or.inl hSb)]; exact HU0.out
      obtain ⟨W3, hW3⟩ : ∃ W3, W3 = wr.alloc (.cells #[.int .i64 X.id, .int .i64 X.rq.queue, .int .i64 X.rq.fr, .int .i64 X.rq.un, .int .i64 X.rq.kind, .slice X.rq.pa X.rq.pn X.rq.pc, .slice X.ba X.bn X.bc] 43) := ⟨_, rfl⟩
      obtain ⟨P4, hP4⟩ : ∃ P4, wr.heap.size = P4 := ⟨_, rfl⟩
      have hb3 : Below wr.heap.size wr W3 := by rw [hW3]; exact (Below.refl _ _).alloc (Nat.le_refl _) _
      have hp4 : W3.heap[P4]? = some (.cells #[.int .i64 X.id, .int .i64 X.rq.queue, .int .i64 X.rq.fr, .int .i64 X.rq.un, .int .i64 X.rq.kind, .slice X.rq.pa X.rq.pn X.rq.pc, .slice X.ba X.bn X.bc] 43 (0, 0)) := by rw [hW3, ← hP4]; exact heap_alloc_new wr _
      have hs3 : W3.heap.size = P4 + 1 := by rw [hW3, ← hP4]; simp
      have C3 := hid (show W3.cell? ⟨S, 3, none⟩ = some (.slice (some ⟨gb, 0, none⟩) bn k3) from cell_later hb3 (by rw [cell_of_row wr S 3 _ _ _ hSr]; rfl))
      have D1 := hid (show W3.cell? ⟨P4, 1, none⟩ = some (.int .i64 X.rq.queue) from by rw [cell_of_row W3 P4 1 _ _ _ hp4]; rfl)
      have D2 := hid (show W3.cell? ⟨P4, 2, none⟩ = some (.int .i64 X.rq.fr) from by rw [cell_of_row W3 P4 2 _ _ _ hp4]; rfl)
      have D3 := hid (show W3.cell? ⟨P4, 3, none⟩ = some (.int .i64 X.rq.un) from by rw [cell_of_row W3 P4 3 _ _ _ hp4]; rfl)
      have D4 := hid (show W3.cell? ⟨P4, 4, none⟩ = some (.int .i64 X.rq.kind) from by rw [cell_of_row W3 P4 4 _ _ _ hp4]; rfl)
      have D5 := hid (show W3.cell? ⟨P4, 5, none⟩ = some (.slice X.rq.pa X.rq.pn X.rq.pc) from by rw [cell_of_row W3 P4 5 _ _ _ hp4]; rfl)
      have HO3 := hid (HO'.out.later hb3)
      have HB3 := hid (below_from HBL.out hb3)
      have KR := hid fun w' (hb : Below W3.heap.size W3 w') => Request_any w' X.rq (by
        have h1 := HO3.out.rqs i hlt2
        rw [hX] at h1
        exact RqIn.later h1 hb) (by rw [← HXB.out]; exact HM.out.ps i hlt)
      have hgb3 : gb < W3.heap.size := by omega
      have hgbw : w.heap.size ≤ gb := by have := HSZ2.out; have := HSZW.out; omega
      have HX := hid hX
      have HP4 := hid hp4
      have HW3 := hid hW3
      have HS3 := hid hs3
      have HSR := hid hSr
      have HBB3 := hid hb3
      clear hrow hcell hXX hX hp4 hW3 hs3 hb3 hSr
      go_wp2_with fail
      rw [← HW3.out]
      go_cut [28] (fun _ wx => ∃ Wn, Wn = wx ∧ ∃ a9 c9, OwnBks wx W2.heap.size (.slice (some ⟨gb, 0, none⟩) bn k3) (b'.set i ⟨X.id, ⟨X.rq.queue, X.rq.fr, X.rq.un, X.rq.kind, a9, X.rq.pn, c9, X.rq.ps⟩, X.ba, X.bn, X.bc, X.bs⟩) ∧ (∀ b off, a9 = some ⟨b, off, none⟩ → W3.heap.size ≤ b) ∧ (∀ k, k ≠ gb → k < W3.heap.size → wx.heap[k]? = W3.heap[k]?) ∧ W3.heap.size ≤ wx.heap.size ∧ Below w.heap.size w wx)
      case first =>
          refine wp_region_store ((Try.f17.body.bind fun c => regOps c 6).getD #[]) (by kernel_rfl) [isV (.pointer (some ⟨S, 3, none⟩)), isV (.slice (some ⟨gb, 0, none⟩) bn k3), isV (.int .i64 i), isV (.pointer (some ⟨P4, 1, none⟩)), isV (.agg #[.int .i64 X.rq.queue, .int .i64 X.rq.fr, .int .i64 X.rq.un, .int .i64 X.rq.kind, .slice X.rq.pa X.rq.pn X.rq.pc]), ⟨fun v Z => ∃ a9 c9, v = .agg #[.int .i64 X.rq.queue, .int .i64 X.rq.fr, .int .i64 X.rq.un, .int .i64 X.rq.kind, .slice a9 X.rq.pn c9] ∧ RunsIn Z a9 X.rq.pn c9 X.rq.ps ∧ ∀ b off, a9 = some ⟨b, off, none⟩ → W3.heap.size ≤ b, fun _ _ _ ⟨a9, c9, h1, h2, h3⟩ hb => ⟨a9, c9, h1, h2.later hb, h3⟩⟩, isV (.pointer (some ⟨gb, i * 7, none⟩)), isV (.pointer (some ⟨gb, i * 7 + 1, none⟩)), isV undef] 8 (by kernel_rfl) (by kernel_rfl) (by kernel_rfl) ?hstep
          case hstep =>
            refine AllOps.cons 1 rfl ?_ ?_
            · intro T w' hb hs hl hd
              rw [if_neg (by decide)]
              have h0 : T.getD 1 undef = .pointer (some ⟨S, 0, none⟩) := hl 1 (by kernel_rfl)
              exact Or.inl ⟨.pointer (some ⟨S, 3, none⟩), w', by go_simp, rfl, Below.refl _ _⟩
            refine AllOps.cons 2 rfl ?_ ?_
            · intro T w' hb hs hl hd
              rw [if_neg (by decide)]
              have h0 : T.getD 21 undef = .pointer (some ⟨S, 3, none⟩) := hd 0 21 (by kernel_rfl)
              have cc := cell_later hb C3.out
              exact Or.inl ⟨.slice (some ⟨gb, 0, none⟩) bn k3, w', by go_simp, rfl, Below.refl _ _⟩
            refine AllOps.cons 3 rfl ?_ ?_
            · intro T w' hb hs hl hd
              rw [if_neg (by decide)]
              have h0 : T.getD 3 undef = .int .i64 i := hl 3 (by kernel_rfl)
              exact Or.inl ⟨.int .i64 i, w', by go_simp, rfl, Below.refl _ _⟩
            refine AllOps.cons 4 rfl ?_ ?_
            · intro T w' hb hs hl hd
              rw [if_neg (by decide)]
              have h0 : T.getD 4 undef = .pointer (some ⟨P4, 0, none⟩) := hl 4 (by kernel_rfl)
              exact Or.inl ⟨.pointer (some ⟨P4, 1, none⟩), w', by go_simp, rfl, Below.refl _ _⟩
            refine AllOps.cons 5 rfl ?_ ?_
            · intro T w' hb hs hl hd
              rw [if_neg (by decide)]
              have h0 : T.getD 24 undef = .pointer (some ⟨P4, 1, none⟩) := hd 3 24 (by kernel_rfl)
              have q1 := cell_later hb D1.out
              have q2 := cell_later hb D2.out
              have q3 := cell_later hb D3.out
              have q4 := cell_later hb D4.out
              have q5 := cell_later hb D5.out
              exact Or.inl ⟨.agg #[.int .i64 X.rq.queue, .int .i64 X.rq.fr, .int .i64 X.rq.un, .int .i64 X.rq.kind, .slice X.rq.pa X.rq.pn X.rq.pc], w', by go_simp, rfl, Below.refl _ _⟩
            refine AllOps.cons 6 rfl ?_ ?_
            · intro T w' hb hs hl hd
              rw [if_neg (by decide)]
              have h0 : T.getD 25 undef = .agg #[.int .i64 X.rq.queue, .int .i64 X.rq.fr, .int .i64 X.rq.un, .int .i64 X.rq.kind, .slice X.rq.pa X.rq.pn X.rq.pc] := hd 4 25 (by kernel_rfl)
              refine Or.inr ⟨18, #[.agg #[.int .i64 X.rq.queue, .int .i64 X.rq.fr, .int .i64 X.rq.un, .int .i64 X.rq.kind, .slice X.rq.pa X.rq.pn X.rq.pc]], by go_simp, ?_⟩
              refine (KR.out w' hb).mono ?_
              rintro e w'' ⟨a9, c9, rfl, hr, hbb, hnw⟩
              exact ⟨_, rfl, ⟨a9, c9, rfl, hr, fun b off e => by have := hnw b off e; have := hb.size; omega⟩, hbb⟩
            refine AllOps.cons 7 rfl ?_ ?_
            · intro T w' hb hs hl hd
              rw [if_neg (by decide)]
              have h0 : T.getD 22 undef = .slice (some ⟨gb, 0, none⟩) bn k3 := hd 1 22 (by kernel_rfl)
              have h1 : T.getD 23 undef = .int .i64 i := hd 2 23 (by kernel_rfl)
              exact Or.inl ⟨.pointer (some ⟨gb, i * 7, none⟩), w', by go_simp, rfl, Below.refl _ _⟩
            refine AllOps.cons 8 rfl ?_ ?_
            · intro T w' hb hs hl hd
              rw [if_neg (by decide)]
              have h0 : T.getD 27 undef = .pointer (some ⟨gb, i * 7, none⟩) := hd 6 27 (by kernel_rfl)
              exact Or.inl ⟨.pointer (some ⟨gb, i * 7 + 1, none⟩), w', by go_simp, rfl, Below.refl _ _⟩
            refine AllOps.cons 9 rfl ?_ ?_
            · intro T w' hb hs hl hd
              rw [if_pos rfl]
              replace hs := hs.resolve_right (fun h => h rfl)
              have h1 : T.getD 28 undef = .pointer (some ⟨gb, i * 7 + 1, none⟩) := hd 7 28 (by kernel_rfl)
              obtain ⟨a9, c9, h0, hr, hnw⟩ := hd 5 26 (by kernel_rfl)
              have hO := (HO3.out.later hb)
              have hlen := HL5'.out
              have hrow := hO.row
              rw [← hlen] at hrow
              have hcell : ∀ k, k < 7 → w'.cell? ⟨gb, i * 7 + k, none⟩ = (bkCell X)[k]? := fun k hk => by rw [hrow.cellAt (i * 7 + k) (by omega), bkCells_at b' i k (by omega) hk, HX.out]
              have x1 : w'.cell? ⟨gb, i * 7 + 1, none⟩ = some (.int .i64 X.rq.queue) := hcell 1 (by omega)
              have x2 : w'.cell? ⟨gb, i * 7 + 1 + 1, none⟩ = some (.int .i64 X.rq.fr) := hcell 2 (by omega)
              have x3 : w'.cell? ⟨gb, i * 7 + 1 + 2, none⟩ = some (.int .i64 X.rq.un) := hcell 3 (by omega)
              have x4 : w'.cell? ⟨gb, i * 7 + 1 + 3, none⟩ = some (.int .i64 X.rq.kind) := hcell 4 (by omega)
              have x5 : w'.cell? ⟨gb, i * 7 + 1 + 4, none⟩ = some (.slice X.rq.pa X.rq.pn X.rq.pc) := hcell 5 (by omega)
              have xf : ∀ k, w'.frozen? ⟨gb, k, none⟩ = false := fun k => hrow.frozenAt k
              have hst := hO.storeReq HL5'.out (j := i) (by omega) (q := X.rq.queue) (fr := X.rq.fr) (un := X.rq.un) (kd := X.rq.kind) hr (fun _ b off e => by have := hnw b off e; have := hgb3; omega)
              rw [HX.out] at hst
              have hst : OwnBks (((((w'.setCell ⟨gb, i * 7 + 1, none⟩ (.int .i64 X.rq.queue)).setCell ⟨gb, i * 7 + 1 + 1, none⟩ (.int .i64 X.rq.fr)).setCell ⟨gb, i * 7 + 1 + 2, none⟩ (.int .i64 X.rq.un)).setCell ⟨gb, i * 7 + 1 + 3, none⟩ (.int .i64 X.rq.kind)).setCell ⟨gb, i * 7 + 1 + 4, none⟩ (.slice a9 X.rq.pn c9)) W2.heap.size (.slice (some ⟨gb, 0, none⟩) bn k3) (b'.set i ⟨X.id, ⟨X.rq.queue, X.rq.fr, X.rq.un, X.rq.kind, a9, X.rq.pn, c9, X.rq.ps⟩, X.ba, X.bn, X.bc, X.bs⟩) := hst
              clear hcell hrow hO
              have hoth : ∀ k, k ≠ gb → k < W3.heap.size → (((((w'.setCell ⟨gb, i * 7 + 1, none⟩ (.int .i64 X.rq.queue)).setCell ⟨gb, i * 7 + 1 + 1, none⟩ (.int .i64 X.rq.fr)).setCell ⟨gb, i * 7 + 1 + 2, none⟩ (.int .i64 X.rq.un)).setCell ⟨gb, i * 7 + 1 + 3, none⟩ (.int .i64 X.rq.kind)).setCell ⟨gb, i * 7 + 1 + 4, none⟩ (.slice a9 X.rq.pn c9)).heap[k]? = W3.heap[k]? := fun k hk hk2 => by
                rw [heap_setCell_other _ ⟨gb, i * 7 + 1 + 4, none⟩ k _ hk, heap_setCell_other _ ⟨gb, i * 7 + 1 + 3, none⟩ k _ hk, heap_setCell_other _ ⟨gb, i * 7 + 1 + 2, none⟩ k _ hk, heap_setCell_other _ ⟨gb, i * 7 + 1 + 1, none⟩ k _ hk, heap_setCell_other _ ⟨gb, i * 7 + 1, none⟩ k _ hk]
                exact hb.block k hk2
              have hbe : Below w.heap.size w (((((w'.setCell ⟨gb, i * 7 + 1, none⟩ (.int .i64 X.rq.queue)).setCell ⟨gb, i * 7 + 1 + 1, none⟩ (.int .i64 X.rq.fr)).setCell ⟨gb, i * 7 + 1 + 2, none⟩ (.int .i64 X.rq.un)).setCell ⟨gb, i * 7 + 1 + 3, none⟩ (.int .i64 X.rq.kind)).setCell ⟨gb, i * 7 + 1 + 4, none⟩ (.slice a9 X.rq.pn c9)) := (((((below_from HB3.out hb).setCell (p := ⟨gb, i * 7 + 1, none⟩) hgbw _).setCell (p := ⟨gb, i * 7 + 1 + 1, none⟩) hgbw _).setCell (p := ⟨gb, i * 7 + 1 + 2, none⟩) hgbw _).setCell (p := ⟨gb, i * 7 + 1 + 3, none⟩) hgbw _).setCell (p := ⟨gb, i * 7 + 1 + 4, none⟩) hgbw _
              refine ⟨(((((w'.setCell ⟨gb, i * 7 + 1, none⟩ (.int .i64 X.rq.queue)).setCell ⟨gb, i * 7 + 1 + 1, none⟩ (.int .i64 X.rq.fr)).setCell ⟨gb, i * 7 + 1 + 2, none⟩ (.int .i64 X.rq.un)).setCell ⟨gb, i * 7 + 1 + 3, none⟩ (.int .i64 X.rq.kind)).setCell ⟨gb, i * 7 + 1 + 4, none⟩ (.slice a9 X.rq.pn c9)), by go_simp, ?_⟩
              show _
              rw [lit_then [true, true, true, true, true, true, true, true, true, true, true, true, true, true, true, true, true, true, true, true, true, false, false, false, false, false, false, false, false, true, true, true, true, true, true, true, true, true, true] (by kernel_rfl) hs hl]
              obtain ⟨us, hus⟩ : ∃ us : Nat → Value, (fun d => T.getD d undef) = us := ⟨_, rfl⟩
              rw [hus]
              clear hus hl hs hd
              apply_assumption
              simp only [fillL]
              go_meet
              refine ⟨_, rfl, a9, c9, hst, hnw, hoth, ?_, hbe⟩
              have := hb.size
              simp only [World.setCell, Array.size_modify]
              omega
            exact trivial
      case rest =>
        obtain ⟨wx, rfl, a9, c9, hO5, hnw5, hblk5, hsz5, hbel5⟩ := hcut
        have hb5len : (b'.set i ⟨X.id, ⟨X.rq.queue, X.rq.fr, X.rq.un, X.rq.kind, a9, X.rq.pn, c9, X.rq.ps⟩, X.ba, X.bn, X.bc, X.bs⟩).length = b'.length := List.length_set
        have hX5 : bk (b'.set i ⟨X.id, ⟨X.rq.queue, X.rq.fr, X.rq.un, X.rq.kind, a9, X.rq.pn, c9, X.rq.ps⟩, X.ba, X.bn, X.bc, X.bs⟩) i = ⟨X.id, ⟨X.rq.queue, X.rq.fr, X.rq.un, X.rq.kind, a9, X.rq.pn, c9, X.rq.ps⟩, X.ba, X.bn, X.bc, X.bs⟩ := by rw [bk_set _ hlt2, if_pos rfl]
        have hoth5 : ∀ j, j ≠ i → bk (b'.set i ⟨X.id, ⟨X.rq.queue, X.rq.fr, X.rq.un, X.rq.kind, a9, X.rq.pn, c9, X.rq.ps⟩, X.ba, X.bn, X.bc, X.bs⟩) j = bk b' j := fun j hj => by rw [bk_set _ hlt2, if_neg hj]
        have hba5 : bareB (b'.set i ⟨X.id, ⟨X.rq.queue, X.rq.fr, X.rq.un, X.rq.kind, a9, X.rq.pn, c9, X.rq.ps⟩, X.ba, X.bn, X.bc, X.bs⟩) = bareB b := by rw [bareB_set hlt2 (by rw [HX.out]; rfl)]; exact HBA'.out
        obtain ⟨b5, hb5⟩ : ∃ b5, b'.set i ⟨X.id, ⟨X.rq.queue, X.rq.fr, X.rq.un, X.rq.kind, a9, X.rq.pn, c9, X.rq.ps⟩, X.ba, X.bn, X.bc, X.bs⟩ = b5 := ⟨_, rfl⟩
        rw [hb5] at hO5 hb5len hX5 hoth5 hba5
        have hgb5 : gb < wx.heap.size := by omega
        have hlt5 : i < b5.length := by omega
        have C3' := hid (show wx.cell? ⟨S, 3, none⟩ = some (.slice (some ⟨gb, 0, none⟩) bn k3) from (World.cell?_of_block (w := W3) (hblk5 S hSb (by have := HS3.out; have := HS4.out; have := HSZW.out; omega))).trans C3.out)
        have D6 := hid (show wx.cell? ⟨P4, 6, none⟩ = some (.slice X.ba X.bn X.bc) from (World.cell?_of_block (w := W3) (hblk5 P4 (by omega) (by have := HS3.out; omega))).trans (by rw [cell_of_row W3 P4 6 _ _ _ HP4.out]; rfl))
        have KB := hid fun w' (hb : Below wx.heap.size wx w') => CloneBites_any w' X.ba X.bn X.bc X.bs (by
          have h1 := hO5.bites i hlt5
          rw [hX5] at h1
          exact h1.later hb) (by rw [← HXB.out]; exact HM.out.bs i hlt)
        have HO5 := hid hO5
        have HL5 : Hid (bn = b5.length) := by show bn = b5.length; rw [hb5len]; exact HL5'.out
        have HX5 := hid hX5
        have HOTH5 := hid hoth5
        have HBA5 := hid hba5
        have HB5 := hid hbel5
        have HBLK5 := hid hblk5
        have HNW5 := hid hnw5
        have HSZ5 := hid hsz5
        clear hO5 hnw5 hblk5 hsz5 hbel5 hb5len hX5 hoth5 hba5 hb5 C3 D1 D2 D3 D4 D5 KR
        go_wp2_with fail
        refine wp_region_store ((Try.f17.body.bind fun c => regOps c 7).getD #[]) (by kernel_rfl) [isV (.pointer (some ⟨S, 3, none⟩)), isV (.slice (some ⟨gb, 0, none⟩) bn k3), isV (.int .i64 i), isV (.pointer (some ⟨P4, 6, none⟩)), isV (.slice X.ba X.bn X.bc), ⟨fun v Z => ∃ a8 c8, v = .slice a8 X.bn c8 ∧ RunsIn Z a8 X.bn c8 X.bs ∧ ∀ b off, a8 = some ⟨b, off, none⟩ → wx.heap.size ≤ b, fun _ _ _ ⟨a8, c8, h1, h2, h3⟩ hb => ⟨a8, c8, h1, h2.later hb, h3⟩⟩, isV (.pointer (some ⟨gb, i * 7, none⟩)), isV (.pointer (some ⟨gb, i * 7 + 6, none⟩)), isV undef] 8 (by kernel_rfl) (by kernel_rfl) (by kernel_rfl) ?hstep
        case hstep =>
          refine AllOps.cons 1 rfl ?_ ?_
          · intro T w' hb hs hl hd
            rw [if_neg (by decide)]
            have h0 : T.getD 1 undef = .pointer (some ⟨S, 0, none⟩) := hl 1 (by kernel_rfl)
            exact Or.inl ⟨.pointer (some ⟨S, 3, none⟩), w', by go_simp, rfl, Below.refl _ _⟩
          refine AllOps.cons 2 rfl ?_ ?_
          · intro T w' hb hs hl hd
            rw [if_neg (by decide)]
            have h0 : T.getD 29 undef = .pointer (some ⟨S, 3, none⟩) := hd 0 29 (by kernel_rfl)
            have cc := cell_later hb C3'.out
            exact Or.inl ⟨.slice (some ⟨gb, 0, none⟩) bn k3, w', by go_simp, rfl, Below.refl _ _⟩
          refine AllOps.cons 3 rfl ?_ ?_
          · intro T w' hb hs hl hd
            rw [if_neg (by decide)]
            have h0 : T.getD 3 undef = .int .i64 i := hl 3 (by kernel_rfl)
            exact Or.inl ⟨.int .i64 i, w', by go_simp, rfl, Below.refl _ _⟩
          refine AllOps.cons 4 rfl ?_ ?_
          · intro T w' hb hs hl hd
            rw [if_neg (by decide)]
            have h0 : T.getD 4 undef = .pointer (some ⟨P4, 0, none⟩) := hl 4 (by kernel_rfl)
            exact Or.inl ⟨.pointer (some ⟨P4, 6, none⟩), w', by go_simp, rfl, Below.refl _ _⟩
          refine AllOps.cons 5 rfl ?_ ?_
          · intro T w' hb hs hl hd
            rw [if_neg (by decide)]
            have h0 : T.getD 32 undef = .pointer (some ⟨P4, 6, none⟩) := hd 3 32 (by kernel_rfl)
            have q6 := cell_later hb D6.out
            exact Or.inl ⟨.slice X.ba X.bn X.bc, w', by go_simp, rfl, Below.refl _ _⟩
          refine AllOps.cons 6 rfl ?_ ?_
          · intro T w' hb hs hl hd
            rw [if_neg (by decide)]
            have h0 : T.getD 33 undef = .slice X.ba X.bn X.bc := hd 4 33 (by kernel_rfl)
            refine Or.inr ⟨35, #[.slice X.ba X.bn X.bc], by go_simp, ?_⟩
            refine (KB.out w' hb).mono ?_
            rintro e w'' ⟨a8, c8, rfl, hr, hbb, hnw⟩
            exact ⟨_, rfl, ⟨a8, c8, rfl, hr, fun b off e => by have := hnw b off e; have := hb.size; omega⟩, hbb⟩
          refine AllOps.cons 7 rfl ?_ ?_
          · intro T w' hb hs hl hd
            rw [if_neg (by decide)]
            have h0 : T.getD 30 undef = .slice (some ⟨gb, 0, none⟩) bn k3 := hd 1 30 (by kernel_rfl)
            have h1 : T.getD 31 undef = .int .i64 i := hd 2 31 (by kernel_rfl)
            exact Or.inl ⟨.pointer (some ⟨gb, i * 7, none⟩), w', by go_simp, rfl, Below.refl _ _⟩
          refine AllOps.cons 8 rfl ?_ ?_
          · intro T w' hb hs hl hd
            rw [if_neg (by decide)]
            have h0 : T.getD 35 undef = .pointer (some ⟨gb, i * 7, none⟩) := hd 6 35 (by kernel_rfl)
            exact Or.inl ⟨.pointer (some ⟨gb, i * 7 + 6, none⟩), w', by go_simp, rfl, Below.refl _ _⟩
          refine AllOps.cons 9 rfl ?_ ?_
          · intro T w' hb hs hl hd
            rw [if_pos rfl]
            replace hs := hs.resolve_right (fun h => h rfl)
            have h1 : T.getD 36 undef = .pointer (some ⟨gb, i * 7 + 6, none⟩) := hd 7 36 (by kernel_rfl)
            obtain ⟨a8, c8, h0, hr, hnw⟩ := hd 5 34 (by kernel_rfl)
            have hO := (HO5.out.later hb)
            have hlen := HL5.out
            have hrow := hO.row
            rw [← hlen] at hrow
            have x6 : w'.cell? ⟨gb, i * 7 + 6, none⟩ = some (.slice X.ba X.bn X.bc) := by rw [hrow.cellAt (i * 7 + 6) (by omega), bkCells_at b5 i 6 (by omega) (by omega), HX5.out]; rfl
            have xf : ∀ k, w'.frozen? ⟨gb, k, none⟩ = false := fun k => hrow.frozenAt k
            have hst := hO.storeBites HL5.out (j := i) (by omega) hr (fun _ b off e => by have := hnw b off e; have := hgb5; omega)
            have hoth : ∀ k, k ≠ gb → k < wx.heap.size → (w'.setCell ⟨gb, i * 7 + 6, none⟩ (.slice a8 X.bn c8)).heap[k]? = wx.heap[k]? := fun k hk hk2 => by
              rw [heap_setCell_other _ ⟨gb, i * 7 + 6, none⟩ k _ hk]
              exact hb.block k hk2
            have hbe : Below w.heap.size w (w'.setCell ⟨gb, i * 7 + 6, none⟩ (.slice a8 X.bn c8)) := (below_from HB5.out hb).setCell (p := ⟨gb, i * 7 + 6, none⟩) hgbw _
            clear hrow hO
            refine ⟨w'.setCell ⟨gb, i * 7 + 6, none⟩ (.slice a8 X.bn c8), by go_simp, ?_⟩
            show _
            rw [lit_then [true, true, true, true, true, true, true, true, true, true, true, true, true, true, true, true, true, true, true, true, true, true, true, true, true, true, true, true, true, false, false, false, false, false, false, false, false, true, true] (by kernel_rfl) hs hl]
            obtain ⟨us, hus⟩ : ∃ us : Nat → Value, (fun d => T.getD d undef) = us := ⟨_, rfl⟩
            rw [hus]
            clear hus hl hs hd
            simp only [fillL]
            have HO7 := hid hst
            have HNW7 := hid hnw
            have HBLK7 := hid hoth
            have HB7 := hid hbe
            have hszy : wx.heap.size ≤ (w'.setCell ⟨gb, i * 7 + 6, none⟩ (.slice a8 X.bn c8)).heap.size := by have := hb.size; simp only [World.setCell, Array.size_modify]; omega
            obtain ⟨wy, hwy⟩ : ∃ wy, w'.setCell ⟨gb, i * 7 + 6, none⟩ (.slice a8 X.bn c8) = wy := ⟨_, rfl⟩
            rw [hwy] at HO7 HBLK7 HB7 hszy ⊢
            clear hst hnw hoth hbe hwy x6 xf hr hb h0 h1 hlen
            go_wp2
            go_roundw
            case rel =>
              first | refine ⟨_, _, _, _, _, _, _, _, _, _, _, _, _, _, _, _, _, _, _, _, _, _, _, _, ?_, rfl⟩ | skip
              have h5 := HX5.out
              have hs5 := HSZ5.out
              have hs3 := HS3.out
              have hlw := HBL.out.size
              have hls4 := HS4.out
              have hlsw := HSZW.out
              refine ⟨i + 1, _, by go_num, by omega, by rw [List.length_set]; exact HL5.out, ?_, HO7.out, fun j h1 h2 => ?_, fun j hj => ?_, fun k hk1 hk2 => ?_, by omega, HB7.out⟩
              · rw [bareB_set hlt5 (by rw [h5]; rfl)]
                exact HBA5.out
              · rw [bk_set _ hlt5, if_neg (by omega), HOTH5.out j (by omega)]
                exact HOLD.out j (by omega) h2
              · rw [bk_set _ hlt5]
                split
                · refine ⟨fun g off e => ?_, fun g off e => ?_⟩
                  · rw [h5] at e
                    have := HNW5.out g off e
                    omega
                  · have := HNW7.out g off e
                    omega
                · rw [HOTH5.out j (by omega)]
                  exact HNEW.out j (by omega)
              · have hkg : k ≠ gb := hk2.resolve_right (by omega)
                rw [HBLK7.out k hkg (by omega), HBLK5.out k hkg (by omega), HBB3.out.block k (by omega)]
                exact HBLK.out k hk1 hk2
            case measure => simp [intOf]; omega
          exact trivial
    · obtain rfl : i = bn := by omega
      have hSr : wr.heap[S]? = some (.cells #[.int .i64 c, .int .i64 n, .slice (some ⟨g, 0, none⟩) tn k1, .slice aa i k3] 25 (0, 0)) := by
        rw [HBLK.out S (by have := HS4.out; have := HSZW.out; omega) (by
          by_cases e : i = 0
          · exact Or.inr e
          · have h1 := HNB.out gb 0 (HAA.out (by omega))
            have := HSZ2.out
            have := HSZW.out
            left
            omega)]
        exact HU0.out
      have hR1 : wr.heap[S + 1]? = some (.cells #[.int .i64 0, .int .i64 0, .slice none 0 0, .slice none 0 0] 25 (0, 0)) := by
        rw [HBLK.out (S + 1) (by have := HS4.out; have := HSZW.out; omega) (by
          by_cases e : i = 0
          · exact Or.inr e
          · have h1 := HNB.out gb 0 (HAA.out (by omega))
            have := HSZ2.out
            have := HSZW.out
            left
            omega)]
        exact HU1.out
      have p0 : wr.cell? ⟨S, 0, none⟩ = some (.int .i64 c) := by rw [cell_of_row wr S 0 _ _ _ hSr]; rfl
      have p1 : wr.cell? ⟨S, 1, none⟩ = some (.int .i64 n) := by rw [cell_of_row wr S 1 _ _ _ hSr]; rfl
      have p2 : wr.cell? ⟨S, 2, none⟩ = some (.slice (some ⟨g, 0, none⟩) tn k1) := by rw [cell_of_row wr S 2 _ _ _ hSr]; rfl
      have p3 : wr.cell? ⟨S, 3, none⟩ = some (.slice aa i k3) := by rw [cell_of_row wr S 3 _ _ _ hSr]; rfl
      have q0 : wr.cell? ⟨S + 1, 0, none⟩ = some (.int .i64 0) := by rw [cell_of_row wr (S + 1) 0 _ _ _ hR1]; rfl
      have q1 : wr.cell? ⟨S + 1, 1, none⟩ = some (.int .i64 0) := by rw [cell_of_row wr (S + 1) 1 _ _ _ hR1]; rfl
      have q2 : wr.cell? ⟨S + 1, 2, none⟩ = some (.slice none 0 0) := by rw [cell_of_row wr (S + 1) 2 _ _ _ hR1]; rfl
      have q3 : wr.cell? ⟨S + 1, 3, none⟩ = some (.slice none 0 0) := by rw [cell_of_row wr (S + 1) 3 _ _ _ hR1]; rfl
      have qf : ∀ k, wr.frozen? ⟨S + 1, k, none⟩ = false := fun k => frozen_of_row wr (S + 1) k _ _ hR1
      have HR1 := hid hR1
      clear hSr hR1
      go_wp2_with fail
      have hres := four_stores wr (S + 1) 25 _ _ _ _ (.int .i64 c) (.int .i64 n) (.slice (some ⟨g, 0, none⟩) tn k1) (.slice aa i k3) HR1.out
      have h4 : w.heap.size ≤ S + 1 := by omega
      refine bodyPost_ret (v := .agg #[.int .i64 c, .int .i64 n, .slice (some ⟨g, 0, none⟩) tn k1, .slice aa i k3]) (results_cell_row Try.results17 _ _ (S + 1) 25 #[.int .i64 c, .int .i64 n, .slice (some ⟨g, 0, none⟩) tn k1, .slice aa i k3] (0, 0) _ rfl hres.1 Try.underlying25 rfl (by kernel_rfl)) rfl ⟨g, k1, l', aa, k3, b', rfl, ?_, HL'.out, HL5'.out, HBA.out, HBA'.out, ?_⟩
      · have hz2 := HSZ2.out
        have hzw := HSZW.out
        have hz4 := HS4.out
        have hbv : ∀ gb', (Value.slice aa i k3).ownBlock = some gb' → gb' = gb ∧ W2.heap.size ≤ gb ∧ 0 < i ∨ i = 0 := fun gb' e => by
          by_cases e0 : i = 0
          · exact Or.inr e0
          · have h1 := HAA.out (by omega)
            rw [h1] at e
            simp only [Value.ownBlock, Option.some.injEq] at e
            exact Or.inl ⟨e.symm, (HNB.out gb 0 h1).1, by omega⟩
        obtain ⟨Wf, hWf⟩ : ∃ Wf, Wf = ((((wr.setCell ⟨S + 1, 0, none⟩ (.int .i64 c)).setCell ⟨S + 1, 1, none⟩ (.int .i64 n)).setCell ⟨S + 1, 2, none⟩ (.slice (some ⟨g, 0, none⟩) tn k1)).setCell ⟨S + 1, 3, none⟩ (.slice aa i k3)) := ⟨_, rfl⟩
        rw [← hWf] at hres ⊢
        have hcl := HL'.out
        have hcb := HL5'.out
        have hnc : ∀ j, j < l'.length → 0 < (qu l' j).cn → ∀ b off, (qu l' j).ca = some ⟨b, off, none⟩ → S + 2 ≤ b := fun j hj hp b off e => by have := HNC.out j (by omega) hp b off e; have := HSZ.out; omega
        have hrowt := HO2.out.row.lt g rfl
        have hcap2 : ∀ j, j < l'.length → 0 < (qu l' j).cn → ∀ b off, (qu l' j).ca = some ⟨b, off, none⟩ → b < W2.heap.size := fun j hj hp b off e => (HO2.out.caps j hj).lt hp e
        have hsame : ∀ k, S + 2 ≤ k → k < W2.heap.size → Wf.heap[k]? = W4.heap[k]? := fun k hk1 hk2 => by
          rw [hres.2 k (by omega), HBLK.out k (by omega) (by
            by_cases e : i = 0
            · exact Or.inr e
            · have h1 := HNB.out gb 0 (HAA.out (by omega))
              left
              omega)]
        have hqs : OwnQs Wf (S + 2) (.slice (some ⟨g, 0, none⟩) tn k1) l' := by
          refine ⟨⟨HO4.out.row.1, ?_⟩, fun j hj => (HO4.out.caps j hj).of_away fun hp b off e => hsame b (hnc j hj hp b off e) (hcap2 j hj hp b off e), HO4.out.far, HO4.out.names⟩
          rcases HO4.out.row.2 with ⟨hz, _⟩ | ⟨g', cap, cur, e1, hB, hg', rest⟩
          · cases hz
          · have e2 := e1
            injection e2 with e2
            injection e2 with e2
            injection e2 with e2
            subst e2
            exact .inr ⟨g, cap, cur, e1, hB, (hsame g hB hrowt.2).trans hg', rest⟩
        have hwf : ∀ k, k ≠ S + 1 → Wf.heap[k]? = wr.heap[k]? := hres.2
        have hbks : OwnBks Wf W2.heap.size (.slice aa i k3) b' := by
          refine HO'.out.blocks (fun g' e => hwf g' ?_) (fun j hj hp g' off e => hwf g' ?_) (fun j hj hp g' off e => hwf g' ?_)
          · have := HO'.out.row.lt g' e
            omega
          · have := (HNEW.out j (by omega)).1 g' off e
            omega
          · have := (HNEW.out j (by omega)).2 g' off e
            omega
        refine ⟨hqs.base (by omega), hbks.base (by have := HBW2.out.size; omega), fun gb' e => ?_, fun j hj hp g' off e => ?_, fun j hj hp g' off e => ?_, fun j hj hp g' off e => ?_⟩
        · have hgg : gb' = gb ∧ W2.heap.size ≤ gb := by
            rcases HDIS.out with h1 | h1
            · rw [h1] at e; cases e
            · rw [h1] at e
              simp only [Value.ownBlock, Option.some.injEq] at e
              exact ⟨e.symm, (HNB.out gb 0 h1).1⟩
          refine ⟨own_ne.2 (by omega), fun j hj hp g' off e2 => ?_⟩
          have := hcap2 j hj hp g' off e2
          omega
        · have := hnc j hj hp g' off e
          omega
        · have := (HNEW.out j (by omega)).1 g' off e
          omega
        · have := (HNEW.out j (by omega)).2 g' off e
          omega
      · exact ((((HBL.out.setCell (p := ⟨S + 1, 0, none⟩) h4 _).setCell (p := ⟨S + 1, 1, none⟩) h4 _).setCell (p := ⟨S + 1, 2, none⟩) h4 _).setCell (p := ⟨S + 1, 3, none⟩) h4 _)
end Go.Proofs.Ytcgchicdmgllaaf
