/- Contracts of req.Check and wrong, and of the reference's isKind, piecesError, rangeError, CheckReq and shaped. -/
import Derived.Test.YtcgchicdmgllaadReqA
namespace Go.Proofs.Ytcgchicdmgllaad
open Go.RowKit

/-- C1's answer -/
def chkQR (l : QL) (r : Rq) : Int := if chkT l = 0 then chkR (missing l.length r.queue) r else chkT l

theorem wrong_any (w : World) (r : Rq) (h : RqIn w r) :
    Calls Try.prog 39 #[.agg #[.int .i64 r.queue, .int .i64 r.fr, .int .i64 r.un, .int .i64 r.kind, .slice r.pa r.pn r.pc]] w fun e w' => e = .returned (.bool (decide (chkR false r ≠ 0))) ∧ Below w.heap.size w w' := by
  have B1 := hid ((Below.refl w.heap.size w).alloc (Nat.le_refl _) (.cells #[.int .i64 r.queue, .int .i64 r.fr, .int .i64 r.un, .int .i64 r.kind, .slice r.pa r.pn r.pc] 37))
  have K := hid (check_any 71 #[] false (fun args w => by go_simp) _ r (h.later B1.out) (fun w' _ => none_any r.queue w'))
  go_enter Try.func39, Try.ntmps39
  go_wp2_with fail
  refine K.out.mono ?_
  rintro e w1 ⟨rfl, B2⟩
  have B3 := hid (below_from B1.out B2)
  clear B2 B1
  obtain ⟨x, hx⟩ : ∃ x, chkR false r = x := ⟨_, rfl⟩
  rw [hx]
  go_wp2
  go_ret
  exact ⟨ret_bool (by subst hx; rw [Bool.eq_iff_iff]; simp), B3.out⟩

theorem CheckRq_any (w : World) (a : Option Addr) (n cap : Nat) (l : QL) (hl : QsIn w a n cap l) (r : Rq) (h : RqIn w r) :
    Calls Try.prog 73 #[.slice a n cap, .agg #[.int .i64 r.queue, .int .i64 r.fr, .int .i64 r.un, .int .i64 r.kind, .slice r.pa r.pn r.pc]] w fun e w' => e = .returned (.int .i64 (chkQR l r)) ∧ Below w.heap.size w w' := by
  have hle := hl.le
  have hcb := hl.capb
  have HN := hid hl.len
  have B1 := hid (((Below.refl w.heap.size w).alloc (Nat.le_refl _) (.cells #[.slice a n cap] 22)).alloc (by simp) (.cells #[.int .i64 r.queue, .int .i64 r.fr, .int .i64 r.un, .int .i64 r.kind, .slice r.pa r.pn r.pc] 37))
  have K := hid (CheckT_any _ a n cap l (hl.later B1.out))
  have bl : ((w.alloc (.cells #[.slice a n cap] 22)).alloc (.cells #[.int .i64 r.queue, .int .i64 r.fr, .int .i64 r.un, .int .i64 r.kind, .slice r.pa r.pn r.pc] 37)).cell? ⟨w.heap.size, 0, none⟩ = some (.slice a n cap) := by go_simp
  have HBL := hid bl
  clear bl
  by_cases g : chkT l = 0
  · have hr : chkQR l r = chkR (missing n r.queue) r := by rw [chkQR, if_pos g, HN.out]
    rw [hr]
    go_enter Try.func73, Try.ntmps73
    go_wp2_with fail
    refine K.out.mono ?_
    rintro e w1 ⟨rfl, B2⟩
    rw [g]
    have B3 := hid (below_from B1.out B2)
    have c0 := cell_later B2 HBL.out
    have c1 : w1.cell? ⟨w.heap.size + 1, 0, none⟩ = some (.int .i64 r.queue) := cell_later B2 (by go_simp)
    have c2 : w1.cell? ⟨w.heap.size + 1, 1, none⟩ = some (.int .i64 r.fr) := cell_later B2 (by go_simp)
    have c3 : w1.cell? ⟨w.heap.size + 1, 2, none⟩ = some (.int .i64 r.un) := cell_later B2 (by go_simp)
    have c4 : w1.cell? ⟨w.heap.size + 1, 3, none⟩ = some (.int .i64 r.kind) := cell_later B2 (by go_simp)
    have c5 : w1.cell? ⟨w.heap.size + 1, 4, none⟩ = some (.slice r.pa r.pn r.pc) := cell_later B2 (by go_simp)
    clear B2
    go_wp2_with fail
    refine (check_any 92 #[.pointer (some ⟨w.heap.size, 0, none⟩)] (missing n r.queue) (fun args w => by go_simp) w1 r (h.later B3.out) (fun w' hb => missing_any r.queue w' w.heap.size a n cap hle hcb (cell_later hb c0))).mono ?_
    rintro e w2 ⟨rfl, B4⟩
    have B5 := hid (below_from B3.out B4)
    clear B4
    obtain ⟨x, hx⟩ : ∃ x, chkR (missing n r.queue) r = x := ⟨_, rfl⟩
    rw [hx]
    go_wp2
    go_ret
    exact ⟨ret_int hx.symm, B5.out⟩
  · have hr : chkQR l r = chkT l := by rw [chkQR, if_neg g]
    rw [hr]
    obtain ⟨x, hx⟩ : ∃ x, chkT l = x := ⟨_, rfl⟩
    rw [hx] at g K
    rw [hx]
    go_enter Try.func73, Try.ntmps73
    go_wp2_with fail
    refine K.out.mono ?_
    rintro e w1 ⟨rfl, B2⟩
    have B3 := hid (below_from B1.out B2)
    clear B2
    go_wp2
    go_ret
    exact ⟨rfl, B3.out⟩

theorem chkR_zero {r : Rq} : chkR false r = 0 ↔ wth r.kind 1 4 = true ∧ wth r.ps.length 1 3 = true ∧ rangeOk r = true := by
  unfold chkR
  constructor
  · intro h
    split at h <;> rename_i h1
    · split at h <;> rename_i h2
      · simp at h; exact ⟨h1, h2, by cases g : rangeOk r <;> simp [g] at h ⊢⟩
      · simp at h
    · simp at h
  · rintro ⟨h1, h2, h3⟩
    simp [h1, h2, h3]

end Go.Proofs.Ytcgchicdmgllaad
