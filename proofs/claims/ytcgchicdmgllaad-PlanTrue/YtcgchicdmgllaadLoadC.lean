/- Contract of load.with: what a right book takes beside what is taken. -/
import Derived.Test.YtcgchicdmgllaadLoadA
import Derived.Test.YtcgchicdmgllaadRunsN
import Derived.Test.YtcgchicdmgllaadReqM
namespace Go.Proofs.Ytcgchicdmgllaad
open Go.RowKit

/-- how many the bite's piece wants -/
def nAt (r : Rq) (b : RunL) (i : Nat) : Int := rN r.ps (rAt b i).toNat
/-- f, and what the first k bites of a book take beside it -/
def withTo (f : RunL) (x : Bk) : Nat → RunL
  | 0 => f
  | k + 1 => (bumpR (withTo f x k) (rN x.bs k) (rN x.bs k + lenOf x.rq x.bs k) (nAt x.rq x.bs k)).1
theorem bite_all {r : Rq} {b : RunL} (h : meets r b = true) {k : Nat} (hk : k < b.length) : 0 ≤ rAt b k ∧ rAt b k < r.ps.length ∧ 0 ≤ rN b k ∧ rN b k + lenOf r b k ≤ 48 ∧ 1 ≤ lenOf r b k ∧ lenOf r b k ≤ 24 ∧ 1 ≤ nAt r b k ∧ nAt r b k ≤ 50 := by
  obtain ⟨h1, h2, h3⟩ := meets_split.1 h
  obtain ⟨g1, g2, _⟩ := biteOk_at (h3 k hk)
  have g3 := inTime_at g2
  have g5 := isPiece_at g1
  have g6 := lenOf_at h1 g1
  have g7 := piece_at h1 (k := (rAt b k).toNat) (by omega)
  have hs := spn_at h1
  exact ⟨by omega, by omega, by omega, by omega, g6.1, g6.2, g7.2.2.1, g7.2.2.2⟩
theorem meets_some {r : Rq} {b : RunL} (h : meets r b = true) : 0 < b.length := by
  obtain ⟨h1, h2, h3⟩ := meets_split.1 h
  have := wantedN_pos h1
  omega

set_option maxRecDepth 100000 in
set_option maxHeartbeats 2000000 in
theorem with_any (w : World) (a : Option Addr) (n cap : Nat) (f : RunL) (hf : RunsIn w a n cap f) (x : Bk) (hr : RqIn w x.rq) (hb : RunsIn w x.ba x.bn x.bc x.bs) (hm : meets x.rq x.bs = true) :
    Calls Try.prog 59 #[.slice a n cap, .agg #[.int .i64 x.id, .int .i64 x.rq.queue, .int .i64 x.rq.fr, .int .i64 x.rq.un, .int .i64 x.rq.kind, .slice x.rq.pa x.rq.pn x.rq.pc, .slice x.ba x.bn x.bc]] w fun e w' => ∃ a' n' c', e = .returned (.slice a' n' c') ∧ RunsIn w' a' n' c' (withTo f x x.bs.length) ∧ Below w.heap.size w w' ∧ ∀ b off, a' = some ⟨b, off, none⟩ → w.heap.size ≤ b := by
  have HBN := hid hb.len
  have HPN := hid hr.len
  have hble := hb.le
  have hbcb := hb.capb
  have hple := RunsIn.le hr
  have hpcb := RunsIn.capb hr
  have hbn : 0 < x.bn := by rw [hb.len]; exact meets_some hm
  have hpn : 0 < x.rq.pn := by have := bite_all hm (k := 0) (meets_some hm); have := hr.len; omega
  obtain ⟨bb, bo, hba, hbc⟩ := hb.cells hbn
  obtain ⟨pb, po, hpa, hpc⟩ := RunsIn.cells hr hpn
  have HBC := hid hbc
  have HPC := hid hpc
  have HBI := hid fun k (hk : k < x.bn) => bite_all hm (k := k) (by rw [← hb.len]; exact hk)
  have HF := hid hf
  have B1 := hid ((Below.refl w.heap.size w).alloc (Nat.le_refl _) (.cells #[.int .i64 x.id, .int .i64 x.rq.queue, .int .i64 x.rq.fr, .int .i64 x.rq.un, .int .i64 x.rq.kind, .slice x.rq.pa x.rq.pn x.rq.pc, .slice x.ba x.bn x.bc] 40))
  have KB := hid (bk_cells w x)
  have hbblt : bb < w.heap.size := block_lt_of_cell (hbc 0 hbn).1
  have hpblt : pb < w.heap.size := block_lt_of_cell (hpc 0 hpn).1
  rw [hba, hpa] at KB B1
  rw [hba, hpa]
  rw [← HBN.out]
  clear hf hr hb hm hbc hpc hba hpa
  go_enter Try.func59, Try.ntmps59
  go_wp2_with fail
  obtain ⟨W0, hW0⟩ : ∃ W0, w.alloc (.cells #[.int .i64 x.id, .int .i64 x.rq.queue, .int .i64 x.rq.fr, .int .i64 x.rq.un, .int .i64 x.rq.kind, .slice (some ⟨pb, po, none⟩) x.rq.pn x.rq.pc, .slice (some ⟨bb, bo, none⟩) x.bn x.bc] 40) = W0 := ⟨_, rfl⟩
  rw [hW0] at KB B1
  rw [hW0]
  obtain ⟨c0, c1, c2, c3, c4, c5, c6⟩ := KB.out W0 (Below.refl _ _)
  have hsz0 : w.heap.size + 1 ≤ W0.heap.size := by rw [← hW0]; simp
  clear hW0
  go_wp2_with fail
  go_loopw [0, 11] (fun v st wr => ∃ (k : Nat) (a' : Option Addr) (n' c' : Nat), st = .int .i64 k ∧ k ≤ x.bn ∧ v = .slice a' n' c' ∧ RunsIn wr a' n' c' (withTo f x k) ∧ (0 < k → ∀ b off, a' = some ⟨b, off, none⟩ → w.heap.size ≤ b) ∧ Below W0.heap.size W0 wr) (fun _ st _ => x.bn - (intOf st).toNat)
  case atStart => exact ⟨0, a, n, cap, rfl, by omega, rfl, HF.out.later B1.out, fun h => by omega, Below.refl _ _⟩
  case round =>
    clear c0 c1 c2 c3 c4 c5 c6
    obtain ⟨k, a', n', c', rfl, hk, rfl, hR, hnew, hbel⟩ := hrel
    have HR := hid hR
    have HNW := hid hnew
    have HB := hid hbel
    have hszr : W0.heap.size ≤ wr.heap.size := hbel.size
    clear hR hnew hbel
    obtain ⟨c0, c1, c2, c3, c4, c5, c6⟩ := KB.out wr HB.out
    by_cases hlt : k < x.bn
    · have hlt' : (k : Int) < x.bn := by omega
      have hbi := HBI.out k hlt
      obtain ⟨Pn, hPn⟩ : ∃ Pn : Nat, rAt x.bs k = Pn := ⟨(rAt x.bs k).toNat, by omega⟩
      have hPlt : Pn < x.rq.pn := by have := HPN.out; omega
      have hPlt' : (Pn : Int) < x.rq.pn := by omega
      have d0 := cell_later (below_from B1.out HB.out) (HBC.out k hlt).1
      have d1 := cell_later (below_from B1.out HB.out) (HBC.out k hlt).2
      have p0 := cell_later (below_from B1.out HB.out) (HPC.out Pn hPlt).1
      have p1 := cell_later (below_from B1.out HB.out) (HPC.out Pn hPlt).2
      have hL : lenOf x.rq x.bs k = rAt x.rq.ps Pn := by rw [lenOf, hPn, Int.toNat_natCast]
      have hM : nAt x.rq x.bs k = rN x.rq.ps Pn := by rw [nAt, hPn, Int.toNat_natCast]
      have HS1 : Hid (withTo f x (k + 1) = (bumpR (withTo f x k) (rN x.bs k) (rN x.bs k + rAt x.rq.ps Pn) (rN x.rq.ps Pn)).1) := by show withTo f x (k + 1) = _; rw [withTo, hL, hM]
      rw [hL, hM] at hbi
      rw [hPn] at d0 hbi
      obtain ⟨L, hLL⟩ : ∃ L, rAt x.rq.ps Pn = L := ⟨_, rfl⟩
      obtain ⟨M, hMM⟩ : ∃ M, rN x.rq.ps Pn = M := ⟨_, rfl⟩
      obtain ⟨t, ht⟩ : ∃ t, rN x.bs k = t := ⟨_, rfl⟩
      rw [hLL] at hbi HS1 p0
      rw [hMM] at hbi HS1 p1
      rw [ht] at hbi HS1 d1
      clear hLL hMM ht hL hM hPn
      have hpbr : pb < wr.heap.size := by omega
      have hbbr : bb < wr.heap.size := by omega
      have hwr : w.heap.size < wr.heap.size := by omega
      go_wp2_with fail
      have hb2 : Below wr.heap.size wr ((wr.alloc (.cells #[.int .i64 Pn, .int .i64 t] 83)).alloc (.cells #[.int .i64 L, .int .i64 M] 90)) := ((Below.refl _ wr).alloc (Nat.le_refl _) _).alloc (by simp) _
      refine (Bump_new _ a' n' c' (withTo f x k) t (t + L) M (HR.out.later hb2)).mono ?_
      rintro e w2 ⟨a2, n2, q2, rfl, hR2, hb3, hnew2⟩
      have HR2 := hid hR2
      have hbr := below_from hb2 hb3
      have HB3 := hid (below_from HB.out hbr)
      have HNW2 : Hid (∀ b off, a2 = some ⟨b, off, none⟩ → w.heap.size ≤ b) := fun b off e => by have := hnew2 b off e; have := hb2.size; omega
      clear hR2 hb3 hnew2 hb2 hbr c0 c1 c2 c3 c4 c5 c6 d0 d1 p0 p1
      go_wp2
      go_roundw
      case rel => exact ⟨k + 1, a2, n2, q2, by go_num, by omega, rfl, by rw [HS1.out]; exact HR2.out, fun _ => HNW2.out, HB3.out⟩
      case measure => simp [intOf]; omega
    · obtain rfl : k = x.bn := by omega
      go_wp2
      go_ret
      exact ⟨_, _, _, rfl, HR.out, below_from B1.out HB.out, HNW.out hbn⟩
end Go.Proofs.Ytcgchicdmgllaad
