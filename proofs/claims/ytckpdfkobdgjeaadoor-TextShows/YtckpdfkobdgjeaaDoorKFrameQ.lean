/- Queues that came in as an argument: what a reading of them says of memory. -/
import Derived.Test.YtckpdfkobdgjeaaDoorKTreeAll
import Derived.Test.YtckpdfkobdgjeaaDoorKFrame
import Derived.Deep.Slices
import Derived.Deep.Strs
namespace Go.Proofs.YtckpdfkobdgjeaaDoor
open Go.ChangeShapes Go.WideShapes Go.ChangeAt Go.RowKit
theorem runs_open_any {H : Type} {enc : TypeId × Value → H} {W : World} {base : Nat} {spare : Nat → Bool} {held : Bool} {fuel : Nat} {cs : List Value} {x : DataW H × List MemPlace}
    (hf : DataW.trod enc Tryd.prog W base spare held fuel 39 cs = some x) : ∃ a len cap l, cs = [.slice a len cap] ∧ RunsIn W a len cap l := by
  have hx : ∃ a len cap, cs = [.slice a len cap] := by
    rcases Go.Deep.open_slice Tryd.underlying39 hf with ⟨h, _⟩ | ⟨a, len, cap, _, _, _, _, h, _⟩
    · exact ⟨none, 0, 0, h⟩
    · exact ⟨some a, len, cap, h⟩
  obtain ⟨a, len, cap, h⟩ := hx
  obtain ⟨l, hl⟩ := runs_open h hf
  exact ⟨a, len, cap, l, h, hl⟩
theorem three_parts {l : List Value} (h : l.length = 3) : ∃ a b c, l = [a, b, c] := by
  match l, h with
  | [a, b, c], _ => exact ⟨a, b, c, rfl⟩
def QuAt (W : World) (b off i : Nat) (q : Qu) : Prop :=
  (W.cell? ⟨b, off + i * 3, none⟩ = some (.string q.name) ∧ W.cell? ⟨b, off + i * 3 + 1, none⟩ = some (.int .i64 q.parent) ∧ W.cell? ⟨b, off + i * 3 + 2, none⟩ = some (.slice q.ca q.cn q.cc)) ∧ RunsIn W q.ca q.cn q.cc q.runs ∧ q.name.size ≤ 9223372036854775807
theorem qu_range (f : Nat → Qu) (n i : Nat) (h : i < n) : qu ((List.range n).map f) i = f i := by simp [qu, List.getD, h]
theorem qs_open {H : Type} {enc : TypeId × Value → H} {W : World} {base : Nat} {spare : Nat → Bool} {held : Bool} {fuel : Nat} {cs : List Value} {a : Option Addr} {len cap : Nat} {x : DataW H × List MemPlace}
    (hcs : cs = [.slice a len cap]) (hf : DataW.trod enc Tryd.prog W base spare held fuel 22 cs = some x) : ∃ l, QsIn W a len cap l := by
  have hI : Inhabited Qu := ⟨⟨ByteArray.empty, 0, none, 0, 0, []⟩⟩
  rcases Go.Deep.open_slice Tryd.underlying22 hf with ⟨h, _⟩ | ⟨ad, len', cap', m, n, D, Pl, h, _, hl, hm, hmm, _, hc⟩
  · rw [hcs] at h
    simp at h
    obtain ⟨rfl, rfl, rfl⟩ := h
    exact ⟨[], rfl, Nat.le_refl _, by simp, fun h => by simp at h, fun i hi => by omega, fun i hi => by omega⟩
  · rw [hcs] at h
    simp at h
    obtain ⟨rfl, rfl, rfl⟩ := h
    have hlm : len ≤ m := by rw [hmm]; split <;> omega
    simp only [maxLen] at hm
    have hce : Tryd.prog.cellsOf 41 = 3 := by kernel_rfl
    rw [hce] at hc
    by_cases hp : 0 < len
    · have hspot : ad.spot = none := by
        obtain ⟨cs', h1, _⟩ := hc 0 (by omega)
        obtain ⟨_, hlen, hcell⟩ := World.cells?_some h1
        have h0 := hcell 0 (by omega)
        obtain ⟨v0, v1, v2, rfl⟩ := three_parts hlen
        have := World.cell?_spot h0
        simpa [Addr.add] using this
      obtain ⟨b, off, spot⟩ := ad
      simp only at hspot
      subst hspot
      have each : ∀ i, i < len → ∃ q : Qu, QuAt W b off i q := by
        intro i hi
        obtain ⟨cs', h1, h2⟩ := hc i (by omega)
        obtain ⟨_, hlen, hcell⟩ := World.cells?_some h1
        obtain ⟨y0, y1, y2, k, _, _, t0, t1, t2⟩ := Go.Deep.trod_struct3 Tryd.underlying41 h2
        obtain ⟨v0, v1, v2, rfl⟩ := three_parts hlen
        have c9 : Tryd.prog.cellsOf 9 = 1 := by kernel_rfl
        have c3 : Tryd.prog.cellsOf 3 = 1 := by kernel_rfl
        have c22 : Tryd.prog.cellsOf 39 = 1 := by kernel_rfl
        simp only [c9, c3, c22, List.drop_zero, List.drop_succ_cons, List.take_succ_cons, List.take_zero] at t0 t1 t2
        obtain ⟨s, hs, _, hss⟩ := DataW.trod_string Tryd.underlying9 t0
        obtain ⟨p, hp', _, _⟩ := DataW.trod_int Tryd.underlying3 t1
        obtain ⟨ca, cn, cc, rl, hr, hRI⟩ := runs_open_any t2
        simp at hs hp' hr
        subst hs hp' hr
        have e0 := hcell 0 (by omega)
        have e1 := hcell 1 (by omega)
        have e2 := hcell 2 (by omega)
        rw [addr_add, addr_add] at e0 e1 e2
        exact ⟨⟨s, p, ca, cn, cc, rl⟩, ⟨by simpa using e0, by simpa using e1, by simpa using e2⟩, hRI, hss⟩
      obtain ⟨f, hfq⟩ := Go.Deep.choose_lt each
      refine ⟨(List.range len).map f, by simp, hl, hm, fun _ => ⟨b, off, rfl, fun i hi => ?_⟩, fun i hi => ?_, fun i hi => ?_⟩
      · rw [qu_range f len i hi]; exact (hfq i hi).1
      · rw [qu_range f len i hi]; exact (hfq i hi).2.1
      · rw [qu_range f len i hi]; exact (hfq i hi).2.2
    · obtain rfl : len = 0 := by omega
      exact ⟨[], rfl, hl, hm, fun h => by simp at h, fun i hi => by omega, fun i hi => by omega⟩
end Go.Proofs.YtckpdfkobdgjeaaDoor
