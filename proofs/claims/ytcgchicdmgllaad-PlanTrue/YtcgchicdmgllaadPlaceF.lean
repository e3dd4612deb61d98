/- Contract of a seeker's each: each piece at its first place, in what the ones ahead have left. -/
import Derived.Test.YtcgchicdmgllaadPlaceC
import Derived.Test.YtcgchicdmgllaadRunsN
import Derived.Test.YtcgchicdmgllaadReqH
import Derived.Maps.AppendAt
namespace Go.Proofs.Ytcgchicdmgllaad
open Go.RowKit

theorem OwnBites.of_block {w w' : World} {B : Nat} {v : Value} {l : RunL} (h : OwnBites w B v l) (hb : ∀ g, v.ownBlock = some g → w'.heap[g]? = w.heap[g]?) : OwnBites w' B v l := by
  refine ⟨h.1, ?_⟩
  rcases h.2 with h2 | ⟨g, cap, cur, hv, hg, hh, hr⟩
  · exact Or.inl h2
  · refine Or.inr ⟨g, cap, cur, hv, hg, (hb g ?_).trans hh, hr⟩
    rw [hv]; rfl
theorem RunsIn.of_blocks {w w' : World} {a : Option Addr} {n cap : Nat} {l : RunL} (h : RunsIn w a n cap l) (hb : ∀ b off, a = some ⟨b, off, none⟩ → w'.heap[b]? = w.heap[b]?) : RunsIn w' a n cap l := by
  refine ⟨h.len, h.le, h.bound, h.capb, fun hp => ?_⟩
  obtain ⟨b, off, ha, hc⟩ := h.cells hp
  have e := hb b off ha
  exact ⟨b, off, ha, fun i hi => ⟨(World.cell?_of_block (w := w) (a := ⟨b, off + i * 2, none⟩) e).trans (hc i hi).1, (World.cell?_of_block (w := w) (a := ⟨b, off + i * 2 + 1, none⟩) e).trans (hc i hi).2⟩⟩
/-- these runs lie neither in block B nor where v lies -/
def Away (a : Option Addr) (n B : Nat) (v : Value) : Prop := 0 < n → ∀ b off, a = some ⟨b, off, none⟩ → b ≠ B ∧ v.ownBlock ≠ some b
theorem RunsIn.of_away {w w' : World} {a : Option Addr} {n cap : Nat} {l : RunL} (h : RunsIn w a n cap l) (hb : 0 < n → ∀ b off, a = some ⟨b, off, none⟩ → w'.heap[b]? = w.heap[b]?) : RunsIn w' a n cap l := by
  by_cases hp : 0 < n
  · exact h.of_blocks (hb hp)
  · exact ⟨h.len, h.le, h.bound, h.capb, fun h => absurd h hp⟩
theorem RunsIn.lt {w : World} {a : Option Addr} {n cap : Nat} {l : RunL} (h : RunsIn w a n cap l) (hp : 0 < n) {b off : Nat} (e : a = some ⟨b, off, none⟩) : b < w.heap.size := by
  obtain ⟨b', off', ha, hc⟩ := h.cells hp
  rw [e] at ha
  cases ha
  exact block_lt_of_cell (hc 0 hp).1
/-- the seeker's own box -/
def SkBox (w : World) (B : Nat) (r : Rq) (pb po : Nat) (a : Option Addr) (n c : Nat) : Prop := w.heap[B]? = some (.cells #[.int .i64 r.queue, .int .i64 r.fr, .int .i64 r.un, .int .i64 r.kind, .slice (some ⟨pb, po, none⟩) r.pn r.pc, .slice a n c] 131 (0, 0))
theorem SkBox.cells {w : World} {B : Nat} {r : Rq} {pb po : Nat} {a : Option Addr} {n c : Nat} (h : SkBox w B r pb po a n c) :
    w.cell? ⟨B, 0, none⟩ = some (.int .i64 r.queue) ∧ w.cell? ⟨B, 1, none⟩ = some (.int .i64 r.fr) ∧ w.cell? ⟨B, 2, none⟩ = some (.int .i64 r.un) ∧ w.cell? ⟨B, 3, none⟩ = some (.int .i64 r.kind) ∧ w.cell? ⟨B, 4, none⟩ = some (.slice (some ⟨pb, po, none⟩) r.pn r.pc) ∧ w.cell? ⟨B, 5, none⟩ = some (.slice a n c) := by
  refine ⟨?_, ?_, ?_, ?_, ?_, ?_⟩ <;> (rw [cell_of_row w B _ _ _ _ h]; rfl)
theorem SkBox.store {w : World} {B : Nat} {r : Rq} {pb po : Nat} {a a' : Option Addr} {n c n' c' : Nat} (h : SkBox w B r pb po a n c) : SkBox (w.setCell ⟨B, 5, none⟩ (.slice a' n' c')) B r pb po a' n' c' := by
  unfold SkBox
  rw [heap_setCell_same w B 5 _ 131 _ h]
  rfl

/-- what one round of each leaves -/
theorem each_next {w w2 w3 w4 : World} {B S : Nat} {o : Obj} {r : Rq} {pb po : Nat} {a a' : Option Addr} {n c n' c' : Nat} {v v' : Value} {bs g' : RunL} {x y : Int}
    (hBS : B < S) (hBw : w.heap.size ≤ B) (hS2 : S ≤ w2.heap.size) (hb2 : Below w.heap.size w w2) (hbox : SkBox w2 B r pb po a n c) (hO2 : OwnBites w2 S v bs)
    (hown : w3.ownsRow S 83 2 v' (bs.length + 1) (cellsOf bs ++ [.int .i64 x, .int .i64 y])) (hg : (w2.alloc o).grownBy w3 v.ownBlock) (hb4 : Below w3.heap.size w3 w4) (hR4 : RunsIn w4 a' n' c' g') (hnew : ∀ b off, a' = some ⟨b, off, none⟩ → w3.heap.size ≤ b) :
    SkBox (w4.setCell ⟨B, 5, none⟩ (.slice a' n' c')) B r pb po a' n' c' ∧ OwnBites (w4.setCell ⟨B, 5, none⟩ (.slice a' n' c')) S v' (bs ++ [(x, y)]) ∧ RunsIn (w4.setCell ⟨B, 5, none⟩ (.slice a' n' c')) a' n' c' g' ∧ Away a' n' B v' ∧ Below w.heap.size w (w4.setCell ⟨B, 5, none⟩ (.slice a' n' c')) ∧ S ≤ (w4.setCell ⟨B, 5, none⟩ (.slice a' n' c')).heap.size := by
  have hO3 : OwnBites w3 S v' (bs ++ [(x, y)]) := by unfold OwnBites; rw [cellsOf_app]; simpa using hown
  have hlt : B < w2.heap.size := by omega
  have hs3 : w2.heap.size < w3.heap.size := by have := hg.size; simp at this; omega
  have hBo : v.ownBlock ≠ some B := fun e => by have := (hO2.lt B e).1; omega
  have hB3 : w3.heap[B]? = w2.heap[B]? := (hg.block B (by simp; omega) (fun e => hBo e.symm)).trans (Below.heap_alloc _ _ _ hlt)
  have hB4 : w4.heap[B]? = w2.heap[B]? := (hb4.block B (by omega)).trans hB3
  have hb3 : Below w.heap.size w w3 := (hb2.alloc hb2.size o).grown hg (by have := hb2.size; simp; omega) (fun k hk => by have := (hO2.lt k hk).1; omega)
  have hO3b : ∀ k, v'.ownBlock = some k → S ≤ k ∧ k < w3.heap.size := fun k hk => hO3.lt k hk
  refine ⟨SkBox.store (hB4.trans hbox), (hO3.keep hb4).of_block (fun k hk => Below.heap_setCell _ _ _ k (by have := (hO3b k hk).1; simp only; omega)), hR4.of_blocks (fun b off e => Below.heap_setCell _ _ _ b (by have := hnew b off e; simp only; omega)), ?_, ?_, ?_⟩
  · intro _ b off e
    have h1 := hnew b off e
    exact ⟨by omega, fun e2 => by have := (hO3b b e2).2; omega⟩
  · exact (hb3.trans (hb4.mono hb3.size)).setCell hBw _
  · simp only [World.setCell, Array.size_modify]
    have := hb4.size
    omega

set_option maxRecDepth 100000 in
set_option maxHeartbeats 4000000 in
theorem each_any (w : World) (r : Rq) (h : RqIn w r) (hc0 : chkR false r = 0) (la : Option Addr) (ln lc : Nat) (f : RunL) (hf : RunsIn w la ln lc f) :
    Calls Try.prog 99 #[.agg #[.int .i64 r.queue, .int .i64 r.fr, .int .i64 r.un, .int .i64 r.kind, .slice r.pa r.pn r.pc, .slice la ln lc]] w fun e w' => GivesB w w' e (bitesOf (eachSt r f r.ps.length)) := by
  obtain ⟨A, hA⟩ : ∃ A, bitesOf (eachSt r f r.ps.length) = A := ⟨_, rfl⟩
  rw [hA]
  have hcb := h.capb
  have hle := h.le
  have HPN := hid h.len
  have hpp : 0 < r.pn := by have := of_decide_eq_true (chkR_zero.1 hc0).2.1; have := h.len; omega
  have hp3 : r.pn ≤ 3 := by have := of_decide_eq_true (chkR_zero.1 hc0).2.1; have := h.len; omega
  obtain ⟨pb, po, hpa, hpc⟩ := h.cells hpp
  have HPC := hid hpc
  have HPS := hid fun k (hk : k < r.pn) => piece_at hc0 (k := k) (by have := h.len; omega)
  have KF := hid fun w1 (hb : Below w.heap.size w w1) a n c g (hg : RunsIn w1 a n c g) i (hi : i < r.pn) fm => sfirst_any w1 r (h.later hb) a n c g hg i hi fm
  have HF := hid hf
  rw [← HPN.out] at hA
  have HA := hid hA
  clear hpc h hf hc0 hA
  rw [hpa] at KF
  rw [hpa]
  obtain ⟨i0, hi0, hz0, hz1, hz2⟩ := info_parts Try.infoBite
  have HNO := hid (each_none (r := r) (f := f))
  go_enter Try.func99, Try.ntmps99
  go_wp2_with fail
  obtain ⟨W0, hW0⟩ : ∃ W0, W0 = w.alloc (.cells #[.int .i64 r.queue, .int .i64 r.fr, .int .i64 r.un, .int .i64 r.kind, .slice (some ⟨pb, po, none⟩) r.pn r.pc, .slice la ln lc] 131) := ⟨_, rfl⟩
  have hsz0 : w.heap.size + 1 ≤ W0.heap.size := by rw [hW0]; simp
  have hsz1 : W0.heap.size ≤ w.heap.size + 1 := by rw [hW0]; simp
  have B1 : Hid (Below w.heap.size w W0) := by rw [hW0]; exact (Below.refl _ _).alloc (Nat.le_refl _) _
  have SB0 : Hid (SkBox W0 w.heap.size r pb po la ln lc) := by rw [hW0]; exact heap_alloc_new w _
  have AW0 : Hid (∀ v : Value, v.ownBlock = none → Away la ln w.heap.size v) := fun v hv hp b off e => ⟨by have := HF.out.lt hp e; omega, by rw [hv]; simp⟩
  rw [← hW0]
  clear hW0
  obtain ⟨c0, c1, c2, c3, c4, c5⟩ := SB0.out.cells
  go_wp2_with fail
  go_loopw [4, 13] (fun v st wr => ∃ (k : Nat) (g bs : RunL) (a : Option Addr) (n c : Nat), st = .int .i64 k ∧ k ≤ r.pn ∧ eachSt r f k = some (g, bs) ∧ SkBox wr w.heap.size r pb po a n c ∧ OwnBites wr W0.heap.size v bs ∧ RunsIn wr a n c g ∧ Away a n w.heap.size v ∧ Below w.heap.size w wr ∧ W0.heap.size ≤ wr.heap.size) (fun _ st _ => r.pn - (intOf st).toNat)
  case atStart => exact ⟨0, f, [], la, ln, lc, rfl, by omega, rfl, SB0.out, World.ownsRow_nil _ _ _ _, HF.out.later B1.out, AW0.out _ rfl, B1.out, Nat.le_refl _⟩
  case round =>
    clear c0 c1 c2 c3 c4 c5
    obtain ⟨k, g, bs, a, n, c, rfl, hk, hst, hbox, hown, hR, haw, hbel, hszr⟩ := hrel
    have HST := hid hst
    have HBX := hid hbox
    have HO := hid hown
    have HR := hid hR
    have HAW := hid haw
    have HB := hid hbel
    have hbl : bs.length = k := each_len hst
    have HBL := hid hbl
    clear hst hbox hown hR haw hbel hbl
    have hlw : w.heap.size < wr.heap.size := by omega
    have hpbl : pb < wr.heap.size := Nat.lt_of_lt_of_le (block_lt_of_cell (HPC.out 0 hpp).1) (by omega)
    obtain ⟨c0, c1, c2, c3, c4, c5⟩ := HBX.out.cells
    by_cases hlt : k < r.pn
    · have hlt' : (k : Int) < r.pn := by omega
      have d0 := cell_later HB.out (HPC.out k hlt).1
      have d1 := cell_later HB.out (HPC.out k hlt).2
      have hps := HPS.out k hlt
      obtain ⟨L, hL⟩ : ∃ L, rAt r.ps k = L := ⟨_, rfl⟩
      obtain ⟨M, hM⟩ : ∃ M, rN r.ps k = M := ⟨_, rfl⟩
      have HX : Hid (fst3 r g r.fr k = firstR g r.fr r.un L M) := by show fst3 r g r.fr k = firstR g r.fr r.un L M; rw [← hL, ← hM]; rfl
      have hbd := fst3_bd r g r.fr k
      obtain ⟨X, hX⟩ : ∃ X, firstR g r.fr r.un L M = X := ⟨_, rfl⟩
      obtain ⟨W2, hW2⟩ : ∃ W2, W2 = wr.alloc (.cells #[.int .i64 L, .int .i64 M] 90) := ⟨_, rfl⟩
      have BW2 : Below wr.heap.size wr W2 := by rw [hW2]; exact (Below.refl _ _).alloc (Nat.le_refl _) _
      have K := KF.out W2 (below_from HB.out BW2) a n c g (HR.out.later BW2) k hlt r.fr
      rw [hL] at d0 hps K
      rw [hM] at d1 hps K
      rw [hX] at K HX
      rw [HX.out] at hbd
      have HL := hid hL
      have HM := hid hM
      have e0 : W2.cell? ⟨wr.heap.size, 0, none⟩ = some (.int .i64 L) := by rw [hW2]; go_simp
      have e1 : W2.cell? ⟨wr.heap.size, 1, none⟩ = some (.int .i64 M) := by rw [hW2]; go_simp
      have HE0 := hid e0
      have HE1 := hid e1
      have HW2 := hid hW2
      clear hX hL hM e0 e1 hW2
      obtain ⟨x, y, z⟩ := X
      simp only at K hbd
      have HK := hid K
      have HBW2 := hid BW2
      clear K BW2
      go_wp2_with fail
      rw [← HW2.out]
      refine HK.out.mono ?_
      rintro e w2 ⟨rfl, hb⟩
      have HB2 := hid (below_from (below_from HB.out HBW2.out) hb)
      have hbr := below_from HBW2.out hb
      have HE0' := hid (cell_later hb HE0.out)
      have HE1' := hid (cell_later hb HE1.out)
      have HO2 := hid (HO.out.keep hbr)
      have HBX2 : Hid (SkBox w2 w.heap.size r pb po a n c) := (hbr.block _ hlw).trans HBX.out
      have HR2 := hid (HR.out.later hbr)
      have hsz2 : W0.heap.size ≤ w2.heap.size := by have := hbr.size; omega
      have hblk : wr.heap.size < w2.heap.size := block_lt_of_cell HE0'.out
      clear hb hbr c0 c1 c2 c3 c4 c5 d0 d1 HW2 HK HBW2 HE0 HE1
      cases y with
      | false =>
        have HS1 : Hid (eachSt r f (k + 1) = none) := by show eachSt r f (k + 1) = none; rw [eachSt, HST.out]; simp only [HX.out]; rfl
        have HAA : Hid (([], false) = A) := by show ([], false) = A; rw [← HA.out, none_on HNO.out HS1.out (by omega)]; rfl
        go_wp2
        go_ret2
        rw [← HAA.out]
        exact givesB_no HB2.out
      | true =>
        have HS1 : Hid (eachSt r f (k + 1) = some ((bumpR g x (x + L) (-M)).1, bs ++ [((k : Int), x)])) := by show eachSt r f (k + 1) = _; rw [eachSt, HST.out]; simp only [HX.out, HL.out, HM.out]; rfl
        have tok : True := trivial
        go_wp2_with (at_builtin; have _t := tok; refine wpList_append_own _ rfl _ _ 38 rfl W0.heap.size 83 i0 (.agg #[.int .i64 0, .int .i64 0]) 2 16 Try.underlying38 hi0 hz0 hz1 hz2 rfl (by decide) _ _ _ rfl (HO2.out.alloc _) ⟨w2.heap.size, 0, none⟩ 1 1 [.int .i64 k, .int .i64 x] rfl rfl ?c1 ?c2 ?c3 ?c4 ?c5 ?_; clear tok)
        case c1 => exact two_new _ _ _ _
        case c2 => exact two_one _ _
        case c3 => have := HBL.out; simp only [maxLen]; omega
        case c4 => have := HBL.out; omega
        case c5 => simp; omega
        intro v' w3 hown' hgrow _
        have hs3 : w2.heap.size < w3.heap.size := by have := hgrow.size; simp at this; omega
        have hne : ∀ b, b < w2.heap.size → u4.ownBlock ≠ some b → w3.heap[b]? = w2.heap[b]? := fun b hb hno => (hgrow.block b (by simp; omega) (fun e => hno e.symm)).trans (Below.heap_alloc _ _ _ hb)
        have HR3 : Hid (RunsIn w3 a n c g) := HR2.out.of_away fun hp b off e => hne b (HR2.out.lt hp e) (HAW.out hp b off e).2
        have hB3 : w3.heap[w.heap.size]? = w2.heap[w.heap.size]? := hne _ (by omega) (fun e => by have := (HO2.out.lt _ e).1; omega)
        have hP3 : w3.heap[wr.heap.size]? = w2.heap[wr.heap.size]? := hne _ hblk (fun e => by have := (HO.out.lt _ e).2; omega)
        have e0 : w3.cell? ⟨wr.heap.size, 0, none⟩ = some (.int .i64 L) := (World.cell?_of_block (w := w2) (a := ⟨wr.heap.size, 0, none⟩) hP3).trans HE0'.out
        have e1 : w3.cell? ⟨wr.heap.size, 1, none⟩ = some (.int .i64 M) := (World.cell?_of_block (w := w2) (a := ⟨wr.heap.size, 1, none⟩) hP3).trans HE1'.out
        obtain ⟨c0, c1, c2, c3, c4, c5⟩ := SkBox.cells (show SkBox w3 w.heap.size r pb po a n c from hB3.trans HBX2.out)
        have HOWN := hid hown'
        have HGR := hid hgrow
        have HB3 := hid hB3
        clear hown' hgrow hne hB3 hP3
        go_wp2_with fail
        refine (Bump_new w3 a n c g x (x + L) (-M) HR3.out).mono ?_
        rintro e w4 ⟨a4, n4, cap4, rfl, hR4, hb4, hnew⟩
        have HR4 := hid hR4
        have HB4 := hid hb4
        have HNW := hid hnew
        have hBx4 : w4.heap[w.heap.size]? = some (.cells #[.int .i64 r.queue, .int .i64 r.fr, .int .i64 r.un, .int .i64 r.kind, .slice (some ⟨pb, po, none⟩) r.pn r.pc, .slice a n c] 131 (0, 0)) := (hb4.block _ (by omega)).trans (HB3.out.trans HBX2.out)
        have c5' := (SkBox.cells (w := w4) hBx4).2.2.2.2.2
        have fr5 := frozen_of_row w4 w.heap.size 5 _ _ hBx4
        clear hR4 hb4 hnew c0 c1 c2 c3 c4 c5 e0 e1 hBx4
        have HN := hid (each_next (x := (k : Int)) (y := x) (o := .cells #[.int .i64 k, .int .i64 x] 83) (by omega) (Nat.le_refl _) hsz2 HB2.out HBX2.out HO2.out HOWN.out HGR.out HB4.out HR4.out HNW.out)
        go_wp2
        go_roundw
        case rel => exact ⟨k + 1, _, _, a4, n4, cap4, by go_num, by omega, HS1.out, HN.out.1, HN.out.2.1, HN.out.2.2.1, HN.out.2.2.2.1, HN.out.2.2.2.2.1, HN.out.2.2.2.2.2⟩
        case measure => simp [intOf]; omega
    · obtain rfl : k = r.pn := by omega
      have HAA : Hid ((bs, true) = A) := by show (bs, true) = A; rw [← HA.out, HST.out]; rfl
      obtain ⟨a', cap', rfl, hR'⟩ := OwnBites.parts HO.out (by have := HBL.out; omega)
      go_wp2
      go_ret2
      rw [← HAA.out]
      exact ⟨_, _, _, rfl, hR', HB.out⟩
end Go.Proofs.Ytcgchicdmgllaad
