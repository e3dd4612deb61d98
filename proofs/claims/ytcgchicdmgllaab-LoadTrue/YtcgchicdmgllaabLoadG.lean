/- Contract of the statements' own sown. -/
import Derived.Test.YtcgchicdmgllaabLoadF
import Derived.Test.YtcgchicdmgllaabReqH
import Derived.Test.YtcgchicdmgllaabTreeJ
namespace Go.Proofs.Ytcgchicdmgllaab
open Go.RowKit

/-- the two books of sown, the bites of the first being l1 -/
def sownL (c d : Nat) (ba : Option Addr) (bn : Nat) (l1 : RunL) : BL := [⟨1, plotR (c + 1) 3 1, ba, bn, bn, l1⟩, ⟨4, ⟨2, 0, 48, 2, some ⟨d + 1, 0, none⟩, 1, 1, [(6, 1)]⟩, some ⟨d + 2, 0, none⟩, 1, 1, [(0, 9)]⟩]
structure SownIn (w : World) (c d : Nat) (ba : Option Addr) (bn : Nat) (l1 : RunL) : Prop where
  lt : c + 1 < d
  row : w.heap[d + 3]? = some (.cells #[.int .i64 1, .int .i64 3, .int .i64 2, .int .i64 30, .int .i64 1, .slice (some ⟨c + 1, 0, none⟩) 2 2, .slice ba bn bn, .int .i64 4, .int .i64 2, .int .i64 0, .int .i64 48, .int .i64 2, .slice (some ⟨d + 1, 0, none⟩) 1 1, .slice (some ⟨d + 2, 0, none⟩) 1 1] 52 (0, 0))
  p1 : RunsIn w (some ⟨c + 1, 0, none⟩) 2 2 [(4, 3), (5, 6)]
  t1 : RunsIn w ba bn bn l1
  p2 : RunsIn w (some ⟨d + 1, 0, none⟩) 1 1 [(6, 1)]
  t2 : RunsIn w (some ⟨d + 2, 0, none⟩) 1 1 [(0, 9)]
theorem SownIn.bks {w : World} {c d : Nat} {ba : Option Addr} {bn : Nat} {l1 : RunL} (h : SownIn w c d ba bn l1) : BksIn w (some ⟨d + 3, 0, none⟩) 2 2 (sownL c d ba bn l1) := by
  refine ⟨rfl, Nat.le_refl _, by decide, fun _ => ⟨d + 3, 0, rfl, fun i hi => ?_⟩, fun i hi => ?_, fun i hi => ?_⟩
  · match i, hi with
    | 0, _ => refine ⟨?_, ?_, ?_, ?_, ?_, ?_, ?_⟩ <;> (rw [cell_of_row w (d + 3) _ _ _ _ h.row]; rfl)
    | 1, _ => refine ⟨?_, ?_, ?_, ?_, ?_, ?_, ?_⟩ <;> (rw [cell_of_row w (d + 3) _ _ _ _ h.row]; rfl)
    | k + 2, hi => omega
  · match i, hi with
    | 0, _ => exact h.p1
    | 1, _ => exact h.p2
    | k + 2, hi => omega
  · match i, hi with
    | 0, _ => exact h.t1
    | 1, _ => exact h.t2
    | k + 2, hi => omega
theorem SownIn.later {w w' : World} {c d : Nat} {ba : Option Addr} {bn : Nat} {l1 : RunL} (h : SownIn w c d ba bn l1) (hb : Below w.heap.size w w') : SownIn w' c d ba bn l1 :=
  ⟨h.lt, (hb.block _ (Array.getElem?_eq_some_iff.1 h.row).1).trans h.row, h.p1.later hb, h.t1.later hb, h.p2.later hb, h.t2.later hb⟩
theorem SownIn.strip {w : World} {c d : Nat} {ba : Option Addr} {bn : Nat} {l1 : RunL} (h : SownIn w c d ba bn l1) : SownIn (w.setCell ⟨d + 3, 6, none⟩ (.slice none 0 0)) c d none 0 [] := by
  have hne := h.lt
  refine ⟨h.lt, ?_, h.p1.blocks fun b off e => ?_, runsIn_nil _, h.p2.blocks fun b off e => ?_, h.t2.blocks fun b off e => ?_⟩
  · rw [heap_setCell_same w (d + 3) 6 _ 52 _ h.row]; rfl
  · cases e; exact Below.heap_setCell _ _ _ _ (by simp only; omega)
  · cases e; exact Below.heap_setCell _ _ _ _ (by simp only; omega)
  · cases e; exact Below.heap_setCell _ _ _ _ (by simp only; omega)

set_option maxHeartbeats 1000000 in
theorem sown_any (w : World) : Calls Try.prog 55 #[] w fun e w' => ∃ c d, e = .returned (.slice (some ⟨d + 3, 0, none⟩) 2 2) ∧ SownIn w' c d (some ⟨d, 0, none⟩) 2 [(0, 8), (1, 10)] ∧ Below w.heap.size w w' ∧ w.heap.size ≤ d := by
  go_enter Try.func55, Try.ntmps55
  go_wp2_with fail
  refine (plot_any w 1).mono ?_
  rintro e w1 ⟨rfl, hq, hb⟩
  have HQ := hid hq
  have HB := hid hb
  have hsz : w.heap.size + 1 < w1.heap.size := by
    obtain ⟨b, off, e, hc⟩ := RunsIn.cells hq (show 0 < 2 by decide)
    cases e
    exact block_lt_of_cell (hc 0 (show 0 < 2 by decide)).1
  clear hq hb
  go_wp2
  go_ret
  have b1 : Below w1.heap.size w1 (w1.alloc (.cells #[.int .i64 0, .int .i64 8, .int .i64 1, .int .i64 10] 35)) := (Below.refl _ _).alloc (Nat.le_refl _) _
  have r1 := pairs_lit w1 [(0, 8), (1, 10)] #[.int .i64 0, .int .i64 8, .int .i64 1, .int .i64 10] 35 2 rfl rfl (by decide)
  obtain ⟨W1, hW1⟩ : ∃ W1, w1.alloc (.cells #[.int .i64 0, .int .i64 8, .int .i64 1, .int .i64 10] 35) = W1 := ⟨_, rfl⟩
  have s1 : W1.heap.size = w1.heap.size + 1 := by rw [← hW1]; simp
  rw [hW1] at b1 r1 ⊢
  have b2 : Below W1.heap.size W1 (W1.alloc (.cells #[.int .i64 6, .int .i64 1] 65)) := (Below.refl _ _).alloc (Nat.le_refl _) _
  have r2 := pairs_lit W1 [(6, 1)] #[.int .i64 6, .int .i64 1] 65 1 rfl rfl (by decide)
  obtain ⟨W2, hW2⟩ : ∃ W2, W1.alloc (.cells #[.int .i64 6, .int .i64 1] 65) = W2 := ⟨_, rfl⟩
  have s2 : W2.heap.size = w1.heap.size + 2 := by rw [← hW2]; simp; omega
  rw [hW2] at b2 r2 ⊢
  have b3 : Below W2.heap.size W2 (W2.alloc (.cells #[.int .i64 0, .int .i64 9] 35)) := (Below.refl _ _).alloc (Nat.le_refl _) _
  have r3 := pairs_lit W2 [(0, 9)] #[.int .i64 0, .int .i64 9] 35 1 rfl rfl (by decide)
  obtain ⟨W3, hW3⟩ : ∃ W3, W2.alloc (.cells #[.int .i64 0, .int .i64 9] 35) = W3 := ⟨_, rfl⟩
  have s3 : W3.heap.size = w1.heap.size + 3 := by rw [← hW3]; simp; omega
  rw [hW3] at b3 r3 ⊢
  rw [s1] at r2
  rw [s2] at r3
  have b4 := fun o => (Below.refl W3.heap.size W3).alloc (Nat.le_refl _) o
  have b13 := below_from (below_from b1 b2) b3
  refine ⟨w.heap.size, w1.heap.size, ?_, ⟨by omega, ?_, ?_, ?_, ?_, ?_⟩, below_from (below_from HB.out b13) (b4 _), by have := HB.out.size; omega⟩
  · go_simp
  · rw [← s3]; exact heap_alloc_new W3 _
  · exact RunsIn.later (RunsIn.later HQ.out b13) (b4 _)
  · exact (r1.later (below_from b2 b3)).later (b4 _)
  · exact (r2.later b3).later (b4 _)
  · exact r3.later (b4 _)
end Go.Proofs.Ytcgchicdmgllaab
