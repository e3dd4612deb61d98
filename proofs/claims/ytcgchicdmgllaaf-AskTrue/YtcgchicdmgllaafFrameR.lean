/- Requests and bites that came in as arguments: what a reading of them says of memory. -/
import Derived.Test.YtcgchicdmgllaafReqAll
import Derived.Test.YtcgchicdmgllaafFrameQ
namespace Go.Proofs.Ytcgchicdmgllaaf
open Go.ChangeShapes Go.WideShapes Go.ChangeAt Go.RowKit

theorem bites_open {H : Type} {enc : TypeId × Value → H} {W : World} {base : Nat} {spare : Nat → Bool} {held : Bool} {fuel : Nat} {cs : List Value} {a : Option Addr} {len cap : Nat} {x : DataW H × List MemPlace}
    (hcs : cs = [.slice a len cap]) (hf : DataW.trod enc Try.prog W base spare held fuel 41 cs = some x) : ∃ l, RunsIn W a len cap l := by
  rcases Go.Deep.open_slice_pairs Try.underlying41 Try.underlying45 (by kernel_rfl) rfl rfl (by kernel_rfl) (by kernel_rfl) hf with ⟨h, _⟩ | ⟨ad, len', cap', m, n, V0, V1, D0, D1, P0, P1, h, _, hl, hm, hmm, _, hc⟩
  · rw [hcs] at h
    simp at h
    obtain ⟨rfl, rfl, rfl⟩ := h
    exact ⟨[], rfl, Nat.le_refl _, by simp, by simp, fun h => by simp at h⟩
  · rw [hcs] at h
    simp at h
    obtain ⟨rfl, rfl, rfl⟩ := h
    have hlm : len ≤ m := by rw [hmm]; split <;> omega
    simp only [maxLen] at hm
    refine ⟨(List.range len).map fun i => (intOf (V0 i), intOf (V1 i)), by simp, hl, by omega, hm, fun hp => ?_⟩
    obtain ⟨b, off, spot⟩ := ad
    have hs : spot = none := by
      have := World.cell?_spot (hc 0 (by omega)).1
      simpa [Addr.add] using this
    subst hs
    refine ⟨b, off, rfl, fun i hi => ?_⟩
    obtain ⟨c0, c1, t0, t1⟩ := hc i (by omega)
    obtain ⟨p, hp0, _, _⟩ := DataW.trod_int Try.underlying3 t0
    obtain ⟨q, hq0, _, _⟩ := DataW.trod_int Try.underlying3 t1
    simp at hp0 hq0
    obtain ⟨r1, r2⟩ := rAt_range V0 V1 len i hi
    rw [r1, r2, hp0, hq0]
    rw [hp0] at c0
    rw [hq0] at c1
    rw [addr_add] at c0 c1
    exact ⟨c0, c1⟩
theorem bites_open_any {H : Type} {enc : TypeId × Value → H} {W : World} {base : Nat} {spare : Nat → Bool} {held : Bool} {fuel : Nat} {cs : List Value} {x : DataW H × List MemPlace}
    (hf : DataW.trod enc Try.prog W base spare held fuel 41 cs = some x) : ∃ a len cap l, cs = [.slice a len cap] ∧ RunsIn W a len cap l := by
  have hx : ∃ a len cap, cs = [.slice a len cap] := by
    rcases Go.Deep.open_slice Try.underlying41 hf with ⟨h, _⟩ | ⟨a, len, cap, _, _, _, _, h, _⟩
    · exact ⟨none, 0, 0, h⟩
    · exact ⟨some a, len, cap, h⟩
  obtain ⟨a, len, cap, h⟩ := hx
  obtain ⟨l, hl⟩ := bites_open h hf
  exact ⟨a, len, cap, l, h, hl⟩

theorem pieces_open {H : Type} {enc : TypeId × Value → H} {W : World} {base : Nat} {spare : Nat → Bool} {held : Bool} {fuel : Nat} {cs : List Value} {a : Option Addr} {len cap : Nat} {x : DataW H × List MemPlace}
    (hcs : cs = [.slice a len cap]) (hf : DataW.trod enc Try.prog W base spare held fuel 26 cs = some x) : ∃ l, RunsIn W a len cap l := by
  rcases Go.Deep.open_slice_pairs Try.underlying26 Try.underlying64 (by kernel_rfl) rfl rfl (by kernel_rfl) (by kernel_rfl) hf with ⟨h, _⟩ | ⟨ad, len', cap', m, n, V0, V1, D0, D1, P0, P1, h, _, hl, hm, hmm, _, hc⟩
  · rw [hcs] at h
    simp at h
    obtain ⟨rfl, rfl, rfl⟩ := h
    exact ⟨[], rfl, Nat.le_refl _, by simp, by simp, fun h => by simp at h⟩
  · rw [hcs] at h
    simp at h
    obtain ⟨rfl, rfl, rfl⟩ := h
    have hlm : len ≤ m := by rw [hmm]; split <;> omega
    simp only [maxLen] at hm
    refine ⟨(List.range len).map fun i => (intOf (V0 i), intOf (V1 i)), by simp, hl, by omega, hm, fun hp => ?_⟩
    obtain ⟨b, off, spot⟩ := ad
    have hs : spot = none := by
      have := World.cell?_spot (hc 0 (by omega)).1
      simpa [Addr.add] using this
    subst hs
    refine ⟨b, off, rfl, fun i hi => ?_⟩
    obtain ⟨c0, c1, t0, t1⟩ := hc i (by omega)
    obtain ⟨p, hp0, _, _⟩ := DataW.trod_int Try.underlying3 t0
    obtain ⟨q, hq0, _, _⟩ := DataW.trod_int Try.underlying3 t1
    simp at hp0 hq0
    obtain ⟨r1, r2⟩ := rAt_range V0 V1 len i hi
    rw [r1, r2, hp0, hq0]
    rw [hp0] at c0
    rw [hq0] at c1
    rw [addr_add] at c0 c1
    exact ⟨c0, c1⟩
theorem pieces_open_any {H : Type} {enc : TypeId × Value → H} {W : World} {base : Nat} {spare : Nat → Bool} {held : Bool} {fuel : Nat} {cs : List Value} {x : DataW H × List MemPlace}
    (hf : DataW.trod enc Try.prog W base spare held fuel 26 cs = some x) : ∃ a len cap l, cs = [.slice a len cap] ∧ RunsIn W a len cap l := by
  have hx : ∃ a len cap, cs = [.slice a len cap] := by
    rcases Go.Deep.open_slice Try.underlying26 hf with ⟨h, _⟩ | ⟨a, len, cap, _, _, _, _, h, _⟩
    · exact ⟨none, 0, 0, h⟩
    · exact ⟨some a, len, cap, h⟩
  obtain ⟨a, len, cap, h⟩ := hx
  obtain ⟨l, hl⟩ := pieces_open h hf
  exact ⟨a, len, cap, l, h, hl⟩


theorem trod_struct5 {P : Program} {H : Type} {enc : TypeId × Value → H} {w : World} {base : Nat} {spare : Nat → Bool} {held : Bool} {t : TypeId} {f0 f1 f2 f3 f4 : Field} {fuel : Nat} {cs : List Value} {x : DataW H × List MemPlace} (ht : P.underlying t = some (.struct #[f0, f1, f2, f3, f4])) (h : DataW.trod enc P w base spare held fuel t cs = some x) :
    ∃ y0 y1 y2 y3 y4 n, cs.length = P.cellsOf t ∧ DataW.trod enc P w base spare held n f0.type ((cs.drop f0.offset).take (P.cellsOf f0.type)) = some y0 ∧
      DataW.trod enc P w base spare held n f1.type ((cs.drop f1.offset).take (P.cellsOf f1.type)) = some y1 ∧ DataW.trod enc P w base spare held n f2.type ((cs.drop f2.offset).take (P.cellsOf f2.type)) = some y2 ∧
      DataW.trod enc P w base spare held n f3.type ((cs.drop f3.offset).take (P.cellsOf f3.type)) = some y3 ∧ DataW.trod enc P w base spare held n f4.type ((cs.drop f4.offset).take (P.cellsOf f4.type)) = some y4 := by
  obtain ⟨xs, n, _, rfl, hl, hlen, hf⟩ := DataW.trod_struct ht h
  match xs, hlen with
  | [y0, y1, y2, y3, y4], _ => exact ⟨y0, y1, y2, y3, y4, n, hl, by simpa using hf 0 f0 rfl, by simpa using hf 1 f1 rfl, by simpa using hf 2 f2 rfl, by simpa using hf 3 f3 rfl, by simpa using hf 4 f4 rfl⟩
theorem five_parts {l : List Value} (h : l.length = 5) : ∃ a b c d e, l = [a, b, c, d, e] := by
  match l, h with
  | [a, b, c, d, e], _ => exact ⟨a, b, c, d, e, rfl⟩
/-- a request, off its five cells -/
theorem rq_open {H : Type} {enc : TypeId × Value → H} {W : World} {base : Nat} {spare : Nat → Bool} {held : Bool} {fuel : Nat} {cs : List Value} {x : DataW H × List MemPlace}
    (hf : DataW.trod enc Try.prog W base spare held fuel 28 cs = some x) : ∃ r : Rq, cs = [.int .i64 r.queue, .int .i64 r.fr, .int .i64 r.un, .int .i64 r.kind, .slice r.pa r.pn r.pc] ∧ RqIn W r := by
  obtain ⟨y0, y1, y2, y3, y4, n, hlen, t0, t1, t2, t3, t4⟩ := trod_struct5 Try.underlying28 hf
  have hce : Try.prog.cellsOf 28 = 5 := by kernel_rfl
  obtain ⟨v0, v1, v2, v3, v4, rfl⟩ := five_parts (hlen.trans hce)
  have c3 : Try.prog.cellsOf 3 = 1 := by kernel_rfl
  have c23 : Try.prog.cellsOf 26 = 1 := by kernel_rfl
  simp only [c3, c23, List.drop_zero, List.drop_succ_cons, List.take_succ_cons, List.take_zero] at t0 t1 t2 t3 t4
  obtain ⟨a0, h0, _, _⟩ := DataW.trod_int Try.underlying3 t0
  obtain ⟨a1, h1, _, _⟩ := DataW.trod_int Try.underlying3 t1
  obtain ⟨a2, h2, _, _⟩ := DataW.trod_int Try.underlying3 t2
  obtain ⟨a3, h3, _, _⟩ := DataW.trod_int Try.underlying3 t3
  obtain ⟨pa, pn, pc, pl, h4, hR⟩ := pieces_open_any t4
  simp at h0 h1 h2 h3 h4
  subst h0 h1 h2 h3 h4
  exact ⟨⟨a0, a1, a2, a3, pa, pn, pc, pl⟩, rfl, hR⟩
set_option maxRecDepth 100000 in
theorem rq_arg {H : Type} {enc : TypeId × Value → H} {W : World} {base : Nat} {spare : Nat → Bool} {held : Bool} {b0 : Nat} {v : Value} {d : DataW H} {p : List MemPlace}
    (hv : Value.okWide Try.prog W .any b0 28 v) (h : DataW.Trod enc Try.prog W base spare held 28 v d p) : ∃ r : Rq, v = .agg #[.int .i64 r.queue, .int .i64 r.fr, .int .i64 r.un, .int .i64 r.kind, .slice r.pa r.pn r.pc] ∧ RqIn W r := by
  obtain ⟨cs, rfl, hsz⟩ := okWide_struct Try.underlying28 hv
  obtain ⟨fuel, hf⟩ := h
  obtain ⟨r, hr, hR⟩ := rq_open hf
  refine ⟨r, ?_, hR⟩
  have : cs.toList = [.int .i64 r.queue, .int .i64 r.fr, .int .i64 r.un, .int .i64 r.kind, .slice r.pa r.pn r.pc] := by simpa [Value.cells] using hr
  rw [← Array.toList_inj.1 (this.trans rfl : cs.toList = #[Value.int .i64 r.queue, .int .i64 r.fr, .int .i64 r.un, .int .i64 r.kind, .slice r.pa r.pn r.pc].toList)]
end Go.Proofs.Ytcgchicdmgllaaf
