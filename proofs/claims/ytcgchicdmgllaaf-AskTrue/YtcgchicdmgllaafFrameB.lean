/- Books that came in as an argument: what a reading of them says of memory; some of the first books, and the rest. -/
import Derived.Test.YtcgchicdmgllaafFrameR
import Derived.Test.YtcgchicdmgllaafLoadAll
namespace Go.Proofs.Ytcgchicdmgllaaf
open Go.ChangeShapes Go.WideShapes Go.ChangeAt Go.RowKit

theorem seven_parts {l : List Value} (h : l.length = 7) : ∃ a b c d e f g, l = [a, b, c, d, e, f, g] := by
  match l, h with
  | [a, b, c, d, e, f, g], _ => exact ⟨a, b, c, d, e, f, g, rfl⟩
/-- one book, off its seven cells -/
def BkAt (W : World) (b off i : Nat) (x : Bk) : Prop :=
  (W.cell? ⟨b, off + i * 7, none⟩ = some (.int .i64 x.id) ∧ W.cell? ⟨b, off + i * 7 + 1, none⟩ = some (.int .i64 x.rq.queue) ∧ W.cell? ⟨b, off + i * 7 + 2, none⟩ = some (.int .i64 x.rq.fr) ∧ W.cell? ⟨b, off + i * 7 + 3, none⟩ = some (.int .i64 x.rq.un) ∧ W.cell? ⟨b, off + i * 7 + 4, none⟩ = some (.int .i64 x.rq.kind) ∧ W.cell? ⟨b, off + i * 7 + 5, none⟩ = some (.slice x.rq.pa x.rq.pn x.rq.pc) ∧ W.cell? ⟨b, off + i * 7 + 6, none⟩ = some (.slice x.ba x.bn x.bc)) ∧ RqIn W x.rq ∧ RunsIn W x.ba x.bn x.bc x.bs
theorem bk_range (f : Nat → Bk) (n i : Nat) (h : i < n) : bk ((List.range n).map f) i = f i := by simp [bk, List.getD, h]

set_option maxRecDepth 100000 in
theorem bks_open {H : Type} {enc : TypeId × Value → H} {W : World} {base : Nat} {spare : Nat → Bool} {held : Bool} {fuel : Nat} {cs : List Value} {a : Option Addr} {len cap : Nat} {x : DataW H × List MemPlace}
    (hcs : cs = [.slice a len cap]) (hf : DataW.trod enc Try.prog W base spare held fuel 23 cs = some x) : ∃ l, BksIn W a len cap l := by
  have hI : Inhabited Bk := ⟨⟨0, ⟨0, 0, 0, 0, none, 0, 0, []⟩, none, 0, 0, []⟩⟩
  rcases Go.Deep.open_slice Try.underlying23 hf with ⟨h, _⟩ | ⟨ad, len', cap', m, n, D, Pl, h, _, hl, hm, hmm, _, hc⟩
  · rw [hcs] at h
    simp at h
    obtain ⟨rfl, rfl, rfl⟩ := h
    exact ⟨[], rfl, Nat.le_refl _, by simp, fun h => by simp at h, fun i hi => by omega, fun i hi => by omega⟩
  · rw [hcs] at h
    simp at h
    obtain ⟨rfl, rfl, rfl⟩ := h
    have hlm : len ≤ m := by rw [hmm]; split <;> omega
    simp only [maxLen] at hm
    have hce : Try.prog.cellsOf 43 = 7 := by kernel_rfl
    rw [hce] at hc
    by_cases hp : 0 < len
    · have hspot : ad.spot = none := by
        obtain ⟨cs', h1, _⟩ := hc 0 (by omega)
        obtain ⟨_, hlen, hcell⟩ := World.cells?_some h1
        have h0 := hcell 0 (by omega)
        obtain ⟨v0, v1, v2, v3, v4, v5, v6, rfl⟩ := seven_parts hlen
        have := World.cell?_spot h0
        simpa [Addr.add] using this
      obtain ⟨b, off, spot⟩ := ad
      simp only at hspot
      subst hspot
      have each : ∀ i, i < len → ∃ q : Bk, BkAt W b off i q := by
        intro i hi
        obtain ⟨cs', h1, h2⟩ := hc i (by omega)
        obtain ⟨_, hlen, hcell⟩ := World.cells?_some h1
        obtain ⟨y0, y1, y2, k, _, _, t0, t1, t2⟩ := Go.Deep.trod_struct3 Try.underlying43 h2
        obtain ⟨v0, v1, v2, v3, v4, v5, v6, rfl⟩ := seven_parts hlen
        have c3 : Try.prog.cellsOf 3 = 1 := by kernel_rfl
        have c25 : Try.prog.cellsOf 28 = 5 := by kernel_rfl
        have c26 : Try.prog.cellsOf 41 = 1 := by kernel_rfl
        simp only [c3, c25, c26, List.drop_zero, List.drop_succ_cons, List.take_succ_cons, List.take_zero] at t0 t1 t2
        obtain ⟨p, hp', _, _⟩ := DataW.trod_int Try.underlying3 t0
        obtain ⟨r, hr, hR⟩ := rq_open t1
        obtain ⟨ca, cn, cc, rl, hb, hB⟩ := bites_open_any t2
        simp at hp' hr hb
        obtain ⟨rfl, rfl, rfl, rfl, rfl⟩ := hr
        subst hp' hb
        have e0 := hcell 0 (by omega)
        have e1 := hcell 1 (by omega)
        have e2 := hcell 2 (by omega)
        have e3 := hcell 3 (by omega)
        have e4 := hcell 4 (by omega)
        have e5 := hcell 5 (by omega)
        have e6 := hcell 6 (by omega)
        rw [addr_add, addr_add] at e0 e1 e2 e3 e4 e5 e6
        exact ⟨⟨p, r, ca, cn, cc, rl⟩, ⟨by simpa using e0, by simpa using e1, by simpa using e2, by simpa using e3, by simpa using e4, by simpa using e5, by simpa using e6⟩, hR, hB⟩
      obtain ⟨f, hfq⟩ := Go.Deep.choose_lt each
      refine ⟨(List.range len).map f, by simp, hl, hm, fun _ => ⟨b, off, rfl, fun i hi => ?_⟩, fun i hi => ?_, fun i hi => ?_⟩
      · rw [bk_range f len i hi]; exact (hfq i hi).1
      · rw [bk_range f len i hi]; exact (hfq i hi).2.1
      · rw [bk_range f len i hi]; exact (hfq i hi).2.2
    · obtain rfl : len = 0 := by omega
      exact ⟨[], rfl, hl, hm, fun h => by simp at h, fun i hi => by omega, fun i hi => by omega⟩
theorem bksIn_nil {w : World} {a : Option Addr} {cap : Nat} (h : cap ≤ 9223372036854775807) : BksIn w a 0 cap [] := ⟨rfl, Nat.zero_le _, h, fun h => by simp at h, fun i hi => by omega, fun i hi => by omega⟩
/-- the first k books, and the rest -/
theorem BksIn.take {w : World} {a : Option Addr} {n cap : Nat} {b : BL} (h : BksIn w a n cap b) {k : Nat} (hk : k ≤ n) : BksIn w a k cap (b.take k) := by
  have hl := h.len
  have hle := h.le
  have e : ∀ i, i < k → bk (b.take k) i = bk b i := fun i hi => by
    unfold bk
    simp only [List.getD, List.getElem?_take]
    rw [if_pos hi]
  refine ⟨by simp; omega, by omega, h.capb, fun hp => ?_, fun i hi => by rw [e i hi]; exact h.rqs i (by omega), fun i hi => by rw [e i hi]; exact h.bites i (by omega)⟩
  obtain ⟨bb, bo, ha, hc⟩ := h.cells (by omega)
  exact ⟨bb, bo, ha, fun i hi => by rw [e i hi]; exact hc i (by omega)⟩
theorem BksIn.drop {w : World} {bb bo n cap : Nat} {b : BL} (h : BksIn w (some ⟨bb, bo, none⟩) n cap b) {k : Nat} (hk : k ≤ n) : BksIn w (some ⟨bb, bo + k * 7, none⟩) (n - k) (cap - k) (b.drop k) := by
  have hl := h.len
  have hle := h.le
  have e : ∀ i, bk (b.drop k) i = bk b (k + i) := fun i => by
    unfold bk
    simp only [List.getD, List.getElem?_drop]
  refine ⟨by simp; omega, by omega, by have := h.capb; omega, fun hp => ?_, fun i hi => by rw [e i]; exact h.rqs _ (by omega), fun i hi => by rw [e i]; exact h.bites _ (by omega)⟩
  obtain ⟨bb', bo', ha, hc⟩ := h.cells (by omega)
  cases ha
  refine ⟨bb, bo + k * 7, rfl, fun i hi => ?_⟩
  rw [e i]
  have := hc (k + i) (by omega)
  rw [show bo + (k + i) * 7 = bo + k * 7 + i * 7 from by omega] at this
  exact this
/-- some number up to a time is the low one -/
def seen (l : RunL) (A : Nat) (low : Int) : Nat → Bool
  | 0 => false
  | k + 1 => seen l A low k || (vals l (A + k) == low)
end Go.Proofs.Ytcgchicdmgllaaf
