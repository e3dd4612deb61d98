/- From a reading of a state to its queues and books in memory. -/
import Derived.Test.YtcgchicdmgllaafFrameB
import Derived.Test.YtcgchicdmgllaafPlanA
namespace Go.Proofs.Ytcgchicdmgllaaf
open Go.ChangeShapes Go.WideShapes Go.ChangeAt Go.RowKit

theorem wf_range {x : Int} (h : (Lit.int .i64 x).wf = true) : -9223372036854775808 ≤ x ∧ x ≤ 9223372036854775807 := by
  simp [Lit.wf, IntKind.min, IntKind.max, IntKind.signed, IntKind.bits] at h
  exact h
theorem qs_open_any {H : Type} {enc : TypeId × Value → H} {W : World} {base : Nat} {spare : Nat → Bool} {held : Bool} {fuel : Nat} {cs : List Value} {x : DataW H × List MemPlace}
    (hf : DataW.trod enc Try.prog W base spare held fuel 22 cs = some x) : ∃ a len cap l, cs = [.slice a len cap] ∧ QsIn W a len cap l := by
  have hx : ∃ a len cap, cs = [.slice a len cap] := by
    rcases Go.Deep.open_slice Try.underlying22 hf with ⟨h, _⟩ | ⟨a, len, cap, _, _, _, _, h, _⟩
    · exact ⟨none, 0, 0, h⟩
    · exact ⟨some a, len, cap, h⟩
  obtain ⟨a, len, cap, h⟩ := hx
  obtain ⟨l, hl⟩ := qs_open h hf
  exact ⟨a, len, cap, l, h, hl⟩
theorem bks_open_any {H : Type} {enc : TypeId × Value → H} {W : World} {base : Nat} {spare : Nat → Bool} {held : Bool} {fuel : Nat} {cs : List Value} {x : DataW H × List MemPlace}
    (hf : DataW.trod enc Try.prog W base spare held fuel 23 cs = some x) : ∃ a len cap l, cs = [.slice a len cap] ∧ BksIn W a len cap l := by
  have hx : ∃ a len cap, cs = [.slice a len cap] := by
    rcases Go.Deep.open_slice Try.underlying23 hf with ⟨h, _⟩ | ⟨a, len, cap, _, _, _, _, h, _⟩
    · exact ⟨none, 0, 0, h⟩
    · exact ⟨some a, len, cap, h⟩
  obtain ⟨a, len, cap, h⟩ := hx
  obtain ⟨l, hl⟩ := bks_open h hf
  exact ⟨a, len, cap, l, h, hl⟩
theorem trod_struct4 {P : Program} {H : Type} {enc : TypeId × Value → H} {w : World} {base : Nat} {spare : Nat → Bool} {held : Bool} {t : TypeId} {f0 f1 f2 f3 : Field} {fuel : Nat} {cs : List Value} {x : DataW H × List MemPlace} (ht : P.underlying t = some (.struct #[f0, f1, f2, f3])) (h : DataW.trod enc P w base spare held fuel t cs = some x) :
    ∃ y0 y1 y2 y3 n, cs.length = P.cellsOf t ∧ DataW.trod enc P w base spare held n f0.type ((cs.drop f0.offset).take (P.cellsOf f0.type)) = some y0 ∧
      DataW.trod enc P w base spare held n f1.type ((cs.drop f1.offset).take (P.cellsOf f1.type)) = some y1 ∧ DataW.trod enc P w base spare held n f2.type ((cs.drop f2.offset).take (P.cellsOf f2.type)) = some y2 ∧
      DataW.trod enc P w base spare held n f3.type ((cs.drop f3.offset).take (P.cellsOf f3.type)) = some y3 := by
  obtain ⟨xs, n, _, rfl, hl, hlen, hf⟩ := DataW.trod_struct ht h
  match xs, hlen with
  | [y0, y1, y2, y3], _ => exact ⟨y0, y1, y2, y3, n, hl, by simpa using hf 0 f0 rfl, by simpa using hf 1 f1 rfl, by simpa using hf 2 f2 rfl, by simpa using hf 3 f3 rfl⟩
theorem four_parts {l : List Value} (h : l.length = 4) : ∃ a b c d, l = [a, b, c, d] := by
  match l, h with
  | [a, b, c, d], _ => exact ⟨a, b, c, d, rfl⟩
set_option maxRecDepth 100000 in
theorem st_arg {H : Type} {enc : TypeId × Value → H} {W : World} {base : Nat} {spare : Nat → Bool} {held : Bool} {b0 : Nat} {v : Value} {d : DataW H} {p : List MemPlace}
    (hv : Value.okWide Try.prog W .any b0 25 v) (h : DataW.Trod enc Try.prog W base spare held 25 v d p) :
    ∃ c n ta tn tc l ba bn bc b, v = .agg #[.int .i64 c, .int .i64 n, .slice ta tn tc, .slice ba bn bc] ∧ StIn W ta tn tc l ba bn bc b := by
  obtain ⟨cs, rfl, hsz⟩ := okWide_struct Try.underlying25 hv
  obtain ⟨fuel, hf⟩ := h
  obtain ⟨y0, y1, y2, y3, n, hlen, t0, t1, t2, t3⟩ := trod_struct4 Try.underlying25 hf
  have hce : Try.prog.cellsOf 25 = 4 := by kernel_rfl
  obtain ⟨v0, v1, v2, v3, hcs⟩ := four_parts (hlen.trans hce)
  rw [hcs] at t0 t1 t2 t3
  have c3 : Try.prog.cellsOf 3 = 1 := by kernel_rfl
  have cq : Try.prog.cellsOf 22 = 1 := by kernel_rfl
  have cb : Try.prog.cellsOf 23 = 1 := by kernel_rfl
  simp only [c3, cq, cb, List.drop_zero, List.drop_succ_cons, List.take_succ_cons, List.take_zero] at t0 t1 t2 t3
  obtain ⟨a0, h0, _, _⟩ := DataW.trod_int Try.underlying3 t0
  obtain ⟨a1, h1, _, _⟩ := DataW.trod_int Try.underlying3 t1
  obtain ⟨ta, tn, tc, l, h2, hQ⟩ := qs_open_any t2
  obtain ⟨ba, bn, bc, b, h3, hB⟩ := bks_open_any t3
  simp at h0 h1 h2 h3
  subst h0 h1 h2 h3
  refine ⟨a0, a1, ta, tn, tc, l, ba, bn, bc, b, ?_, hQ, hB⟩
  have : cs.toList = [.int .i64 a0, .int .i64 a1, .slice ta tn tc, .slice ba bn bc] := by simpa [Value.cells] using hcs
  rw [← Array.toList_inj.1 (this.trans rfl : cs.toList = #[Value.int .i64 a0, .int .i64 a1, .slice ta tn tc, .slice ba bn bc].toList)]
/-- which of n things a raw number speaks of -/
def chosen (c : Int) (n : Nat) : Nat := if c < 0 then ((-(c + 1)) % n).toNat else (c % n).toNat
theorem chosen_lt {c : Int} {n : Nat} (hn : 0 < n) : chosen c n < n := by
  have hn' : (0 : Int) < n := by omega
  have hne : ¬ (n : Int) = 0 := by omega
  unfold chosen
  split
  · have := Int.emod_lt_of_pos (-(c + 1)) hn'; have := Int.emod_nonneg (-(c + 1)) hne; omega
  · have := Int.emod_lt_of_pos c hn'; have := Int.emod_nonneg c hne; omega
theorem seven_stores (w : World) (G : Nat) (t : TypeId) (x0 x1 x2 x3 x4 x5 x6 a b c d e f g : Value) (h : w.heap[G]? = some (.cells #[x0, x1, x2, x3, x4, x5, x6] t (0, 0))) :
    (((((((w.setCell ⟨G, 0, none⟩ a).setCell ⟨G, 1, none⟩ b).setCell ⟨G, 2, none⟩ c).setCell ⟨G, 3, none⟩ d).setCell ⟨G, 4, none⟩ e).setCell ⟨G, 5, none⟩ f).setCell ⟨G, 6, none⟩ g).heap[G]? = some (.cells #[a, b, c, d, e, f, g] t (0, 0)) ∧
    ∀ k, k ≠ G → (((((((w.setCell ⟨G, 0, none⟩ a).setCell ⟨G, 1, none⟩ b).setCell ⟨G, 2, none⟩ c).setCell ⟨G, 3, none⟩ d).setCell ⟨G, 4, none⟩ e).setCell ⟨G, 5, none⟩ f).setCell ⟨G, 6, none⟩ g).heap[k]? = w.heap[k]? := by
  have h0 : (w.setCell ⟨G, 0, none⟩ a).heap[G]? = some (.cells #[a, x1, x2, x3, x4, x5, x6] t (0, 0)) := heap_setCell_same _ G 0 _ t a h
  have h1 : ((w.setCell ⟨G, 0, none⟩ a).setCell ⟨G, 1, none⟩ b).heap[G]? = some (.cells #[a, b, x2, x3, x4, x5, x6] t (0, 0)) := heap_setCell_same _ G 1 _ t b h0
  have h2 : (((w.setCell ⟨G, 0, none⟩ a).setCell ⟨G, 1, none⟩ b).setCell ⟨G, 2, none⟩ c).heap[G]? = some (.cells #[a, b, c, x3, x4, x5, x6] t (0, 0)) := heap_setCell_same _ G 2 _ t c h1
  have h3 : ((((w.setCell ⟨G, 0, none⟩ a).setCell ⟨G, 1, none⟩ b).setCell ⟨G, 2, none⟩ c).setCell ⟨G, 3, none⟩ d).heap[G]? = some (.cells #[a, b, c, d, x4, x5, x6] t (0, 0)) := heap_setCell_same _ G 3 _ t d h2
  have h4 : (((((w.setCell ⟨G, 0, none⟩ a).setCell ⟨G, 1, none⟩ b).setCell ⟨G, 2, none⟩ c).setCell ⟨G, 3, none⟩ d).setCell ⟨G, 4, none⟩ e).heap[G]? = some (.cells #[a, b, c, d, e, x5, x6] t (0, 0)) := heap_setCell_same _ G 4 _ t e h3
  have h5 : ((((((w.setCell ⟨G, 0, none⟩ a).setCell ⟨G, 1, none⟩ b).setCell ⟨G, 2, none⟩ c).setCell ⟨G, 3, none⟩ d).setCell ⟨G, 4, none⟩ e).setCell ⟨G, 5, none⟩ f).heap[G]? = some (.cells #[a, b, c, d, e, f, x6] t (0, 0)) := heap_setCell_same _ G 5 _ t f h4
  have h6 : (((((((w.setCell ⟨G, 0, none⟩ a).setCell ⟨G, 1, none⟩ b).setCell ⟨G, 2, none⟩ c).setCell ⟨G, 3, none⟩ d).setCell ⟨G, 4, none⟩ e).setCell ⟨G, 5, none⟩ f).setCell ⟨G, 6, none⟩ g).heap[G]? = some (.cells #[a, b, c, d, e, f, g] t (0, 0)) := heap_setCell_same _ G 6 _ t g h5
  refine ⟨h6, fun k hk => ?_⟩
  rw [heap_setCell_other _ ⟨G, 6, none⟩ k _ hk, heap_setCell_other _ ⟨G, 5, none⟩ k _ hk, heap_setCell_other _ ⟨G, 4, none⟩ k _ hk, heap_setCell_other _ ⟨G, 3, none⟩ k _ hk, heap_setCell_other _ ⟨G, 2, none⟩ k _ hk, heap_setCell_other _ ⟨G, 1, none⟩ k _ hk, heap_setCell_other _ ⟨G, 0, none⟩ k _ hk]
/-- a box with a book in it -/
def BkBox (w : World) (B : Nat) (x : Bk) : Prop := w.heap[B]? = some (.cells #[.int .i64 x.id, .int .i64 x.rq.queue, .int .i64 x.rq.fr, .int .i64 x.rq.un, .int .i64 x.rq.kind, .slice x.rq.pa x.rq.pn x.rq.pc, .slice x.ba x.bn x.bc] 43 (0, 0))
theorem BkBox.later {w w' : World} {B : Nat} {x : Bk} (h : BkBox w B x) (hb : Below w.heap.size w w') : BkBox w' B x := (hb.block _ (Array.getElem?_eq_some_iff.1 h).1).trans h
theorem BkBox.cells {w : World} {B : Nat} {x : Bk} (h : BkBox w B x) : w.cell? ⟨B, 0, none⟩ = some (.int .i64 x.id) ∧ w.cell? ⟨B, 1, none⟩ = some (.int .i64 x.rq.queue) ∧ w.cell? ⟨B, 2, none⟩ = some (.int .i64 x.rq.fr) ∧ w.cell? ⟨B, 3, none⟩ = some (.int .i64 x.rq.un) ∧ w.cell? ⟨B, 4, none⟩ = some (.int .i64 x.rq.kind) ∧ w.cell? ⟨B, 5, none⟩ = some (.slice x.rq.pa x.rq.pn x.rq.pc) ∧ w.cell? ⟨B, 6, none⟩ = some (.slice x.ba x.bn x.bc) := by
  unfold BkBox at h
  refine ⟨?_, ?_, ?_, ?_, ?_, ?_, ?_⟩ <;> (rw [cell_of_row w B _ _ _ _ h]; rfl)
end Go.Proofs.Ytcgchicdmgllaaf
