/- Runs that came in as an argument: what a reading of them says of memory. -/
import Derived.Test.YtckpdfkobdgjeaaDoorKRunsAll
import Derived.Test.YtckpdfkobdgjeaaDoorRows
import Derived.ProofKit
import Derived.OpenShut
import Derived.ShutString
import Derived.ChangeOld
import Derived.Below
import Derived.Deep.SlicePairs
namespace Go.Proofs.YtckpdfkobdgjeaaDoor
open Go.ChangeShapes Go.WideShapes Go.ChangeAt Go.RowKit
theorem own : ownKnob Tryd.prog.godebug = none := by kernel_rfl
theorem laidOut : laidOutB Tryd.prog = true := by kernel_rfl
theorem addr_add (b off j : Nat) : (⟨b, off, none⟩ : Addr).add j = ⟨b, off + j, none⟩ := by unfold Addr.add; split <;> simp_all
theorem rAt_range (V0 V1 : Nat → Value) (n i : Nat) (h : i < n) : rAt ((List.range n).map fun i => (intOf (V0 i), intOf (V1 i))) i = intOf (V0 i) ∧ rN ((List.range n).map fun i => (intOf (V0 i), intOf (V1 i))) i = intOf (V1 i) := by
  simp [rAt, rN, List.getD, h]
theorem runs_open {H : Type} {enc : TypeId × Value → H} {W : World} {base : Nat} {spare : Nat → Bool} {held : Bool} {fuel : Nat} {cs : List Value} {a : Option Addr} {len cap : Nat} {x : DataW H × List MemPlace}
    (hcs : cs = [.slice a len cap]) (hf : DataW.trod enc Tryd.prog W base spare held fuel 39 cs = some x) : ∃ l, RunsIn W a len cap l := by
  rcases Go.Deep.open_slice_pairs Tryd.underlying39 Tryd.underlying47 (by kernel_rfl) rfl rfl (by kernel_rfl) (by kernel_rfl) hf with ⟨h, _⟩ | ⟨ad, len', cap', m, n, V0, V1, D0, D1, P0, P1, h, _, hl, hm, hmm, _, hc⟩
  · rw [hcs] at h
    simp at h
    obtain ⟨rfl, rfl, rfl⟩ := h
    exact ⟨[], rfl, Nat.le_refl _, by simp, by simp, fun h => by simp at h⟩
  · rw [hcs] at h
    simp at h
    obtain ⟨rfl, rfl, rfl⟩ := h
    have hlm : len ≤ m := by rw [hmm]; split <;> omega
    simp only [maxLen] at hm
    refine ⟨(List.range len).map fun i => (intOf (V0 i), intOf (V1 i)), by simp, hl, by omega, hm, fun hp => ?_⟩
    obtain ⟨b, off, spot⟩ := ad
    have hs : spot = none := by
      have := World.cell?_spot (hc 0 (by omega)).1
      simpa [Addr.add] using this
    subst hs
    refine ⟨b, off, rfl, fun i hi => ?_⟩
    obtain ⟨c0, c1, t0, t1⟩ := hc i (by omega)
    obtain ⟨p, hp0, _, _⟩ := DataW.trod_int Tryd.underlying3 t0
    obtain ⟨q, hq0, _, _⟩ := DataW.trod_int Tryd.underlying3 t1
    simp at hp0 hq0
    obtain ⟨r1, r2⟩ := rAt_range V0 V1 len i hi
    rw [r1, r2, hp0, hq0]
    rw [hp0] at c0
    rw [hq0] at c1
    rw [addr_add] at c0 c1
    exact ⟨c0, c1⟩
end Go.Proofs.YtckpdfkobdgjeaaDoor
