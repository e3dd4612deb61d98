/- Contracts of req.Check and wrong, and of the reference's isKind, piecesError, rangeError, CheckReq and shaped. -/
import Derived.Test.YtcgchicdmgllaabReqA
namespace Go.Proofs.Ytcgchicdmgllaab
open Go.RowKit

/-- C1's answer -/
def chkQR (l : QL) (r : Rq) : Int := if chkT l = 0 then chkR (missing l.length r.queue) r else chkT l

theorem wrong_any (w : World) (r : Rq) (h : RqIn w r) :
    Calls Try.prog 30 #[.agg #[.int .i64 r.queue, .int .i64 r.fr, .int .i64 r.un, .int .i64 r.kind, .slice r.pa r.pn r.pc]] w fun e w' => e = .returned (.bool (decide (chkR false r ≠ 0))) ∧ Below w.heap.size w w' := by
  have B1 := hid ((Below.refl w.heap.size w).alloc (Nat.le_refl _) (.cells #[.int .i64 r.queue, .int .i64 r.fr, .int .i64 r.un, .int .i64 r.kind, .slice r.pa r.pn r.pc] 25))
  have K := hid (check_any 65 #[] false (fun args w => by go_simp) _ r (h.later B1.out) (fun w' _ => none_any r.queue w'))
  go_enter Try.func30, Try.ntmps30
  go_wp2_with fail
  refine K.out.mono ?_
  rintro e w1 ⟨rfl, B2⟩
  have B3 := hid (below_from B1.out B2)
  clear B2 B1
  obtain ⟨x, hx⟩ : ∃ x, chkR false r = x := ⟨_, rfl⟩
  rw [hx]
  go_wp2
  go_ret
  exact ⟨ret_bool (by subst hx; rw [Bool.eq_iff_iff]; simp), B3.out⟩

theorem CheckRq_any (w : World) (a : Option Addr) (n cap : Nat) (l : QL) (hl : QsIn w a n cap l) (r : Rq) (h : RqIn w r) :
    Calls Try.prog 12 #[.slice a n cap, .agg #[.int .i64 r.queue, .int .i64 r.fr, .int .i64 r.un, .int .i64 r.kind, .slice r.pa r.pn r.pc]] w fun e w' => e = .returned (.int .i64 (chkQR l r)) ∧ Below w.heap.size w w' := by
  have hle := hl.le
  have hcb := hl.capb
  have HN := hid hl.len
  have B1 := hid (((Below.refl w.heap.size w).alloc (Nat.le_refl _) (.cells #[.slice a n cap] 22)).alloc (by simp) (.cells #[.int .i64 r.queue, .int .i64 r.fr, .int .i64 r.un, .int .i64 r.kind, .slice r.pa r.pn r.pc] 25))
  have K := hid (CheckT_any _ a n cap l (hl.later B1.out))
  have bl : ((w.alloc (.cells #[.slice a n cap] 22)).alloc (.cells #[.int .i64 r.queue, .int .i64 r.fr, .int .i64 r.un, .int .i64 r.kind, .slice r.pa r.pn r.pc] 25)).cell? ⟨w.heap.size, 0, none⟩ = some (.slice a n cap) := by go_simp
  have HBL := hid bl
  clear bl
  by_cases g : chkT l = 0
  · have hr : chkQR l r = chkR (missing n r.queue) r := by rw [chkQR, if_pos g, HN.out]
    rw [hr]
    go_enter Try.func12, Try.ntmps12
    go_wp2_with fail
    refine K.out.mono ?_
    rintro e w1 ⟨rfl, B2⟩
    rw [g]
    have B3 := hid (below_from B1.out B2)
    have c0 := cell_later B2 HBL.out
    have c1 : w1.cell? ⟨w.heap.size + 1, 0, none⟩ = some (.int .i64 r.queue) := cell_later B2 (by go_simp)
    have c2 : w1.cell? ⟨w.heap.size + 1, 1, none⟩ = some (.int .i64 r.fr) := cell_later B2 (by go_simp)
    have c3 : w1.cell? ⟨w.heap.size + 1, 2, none⟩ = some (.int .i64 r.un) := cell_later B2 (by go_simp)
    have c4 : w1.cell? ⟨w.heap.size + 1, 3, none⟩ = some (.int .i64 r.kind) := cell_later B2 (by go_simp)
    have c5 : w1.cell? ⟨w.heap.size + 1, 4, none⟩ = some (.slice r.pa r.pn r.pc) := cell_later B2 (by go_simp)
    clear B2
    go_wp2_with fail
    refine (check_any 41 #[.pointer (some ⟨w.heap.size, 0, none⟩)] (missing n r.queue) (fun args w => by go_simp) w1 r (h.later B3.out) (fun w' hb => missing_any r.queue w' w.heap.size a n cap hle hcb (cell_later hb c0))).mono ?_
    rintro e w2 ⟨rfl, B4⟩
    have B5 := hid (below_from B3.out B4)
    clear B4
    obtain ⟨x, hx⟩ : ∃ x, chkR (missing n r.queue) r = x := ⟨_, rfl⟩
    rw [hx]
    go_wp2
    go_ret
    exact ⟨ret_int hx.symm, B5.out⟩
  · have hr : chkQR l r = chkT l := by rw [chkQR, if_neg g]
    rw [hr]
    obtain ⟨x, hx⟩ : ∃ x, chkT l = x := ⟨_, rfl⟩
    rw [hx] at g K
    rw [hx]
    go_enter Try.func12, Try.ntmps12
    go_wp2_with fail
    refine K.out.mono ?_
    rintro e w1 ⟨rfl, B2⟩
    have B3 := hid (below_from B1.out B2)
    clear B2
    go_wp2
    go_ret
    exact ⟨rfl, B3.out⟩

theorem isKind_any (k : Int) (w : World) : Calls Try.prog 43 #[.int .i64 k] w fun e w' => e = .returned (.bool (wth k 1 4)) ∧ w' = w := by
  go_enter Try.func43, Try.ntmps43
  go_wp2_with (go_at_call 36; refine (within_any _ _ _ _).mono ?_; rintro e w' ⟨rfl, rfl⟩)
  go_ret
  exact ⟨rfl, rfl⟩
theorem piecesError_any (w : World) (r : Rq) (h : RqIn w r) :
    Calls Try.prog 44 #[.agg #[.int .i64 r.queue, .int .i64 r.fr, .int .i64 r.un, .int .i64 r.kind, .slice r.pa r.pn r.pc]] w fun e w' => e = .returned (.int .i64 (if wth r.ps.length 1 3 = true then 0 else 2)) ∧ Below w.heap.size w w' := by
  have hn := h.len
  have hcb := h.capb
  have hle := h.le
  rw [← hn]
  clear hn
  cases g : wth r.pn 1 3
  all_goals
    go_enter Try.func44, Try.ntmps44
    go_wp2_with (go_at_call 36; refine (within_any _ _ _ _).mono ?_; rintro e w' ⟨rfl, hw'⟩; rw [hw', g])
    go_ret
    exact ⟨ret_int (by rfl), (Below.refl _ _).alloc (Nat.le_refl _) _⟩

set_option maxHeartbeats 1000000 in
theorem rangeError_any (w : World) (r : Rq) (h : RqIn w r) (hp : 0 < r.pn) :
    Calls Try.prog 45 #[.agg #[.int .i64 r.queue, .int .i64 r.fr, .int .i64 r.un, .int .i64 r.kind, .slice r.pa r.pn r.pc]] w fun e w' => e = .returned (.int .i64 (if rangeOk r = true then 0 else 3)) ∧ Below w.heap.size w w' := by
  have HN := hid h.len
  have hcb := h.capb
  have hle := h.le
  obtain ⟨b, off, hpa, hc⟩ := h.cells hp
  have B1 := hid ((Below.refl w.heap.size w).alloc (Nat.le_refl _) (.cells #[.int .i64 r.queue, .int .i64 r.fr, .int .i64 r.un, .int .i64 r.kind, .slice r.pa r.pn r.pc] 25))
  have HC : Hid (∀ i, i < r.pn → (w.alloc (.cells #[.int .i64 r.queue, .int .i64 r.fr, .int .i64 r.un, .int .i64 r.kind, .slice r.pa r.pn r.pc] 25)).cell? ⟨b, off + i * 2, none⟩ = some (.int .i64 (rAt r.ps i)) ∧ (w.alloc (.cells #[.int .i64 r.queue, .int .i64 r.fr, .int .i64 r.un, .int .i64 r.kind, .slice r.pa r.pn r.pc] 25)).cell? ⟨b, off + i * 2 + 1, none⟩ = some (.int .i64 (rN r.ps i))) := fun i hi => ⟨cell_later B1.out (hc i hi).1, cell_later B1.out (hc i hi).2⟩
  clear hc
  rw [hpa] at HC B1
  rw [hpa]
  cases hs : spn r.fr r.un with
  | false =>
    have hr : rangeOk r = false := by rw [rangeOk, hs]; rfl
    rw [hr]
    go_enter Try.func45, Try.ntmps45
    go_wp2_with (go_at_call 78; refine (spanOf_any _ _ _).mono ?_; rintro e w' ⟨rfl, hw'⟩; rw [hw', hs])
    go_ret
    exact ⟨ret_int (by rfl), B1.out⟩
  | true =>
    have hr : Hid (rangeOk r = allN (pieceOk r.ps) r.pn) := by show rangeOk r = allN (pieceOk r.ps) r.pn; rw [rangeOk, hs, piecesOk, HN.out]; rfl
    obtain ⟨x, hx⟩ : ∃ x : Int, (if rangeOk r = true then (0 : Int) else 3) = x := ⟨_, rfl⟩
    have X0 : Hid (allN (pieceOk r.ps) r.pn = true → 0 = x) := fun e => by rw [← hx, hr.out, e]; rfl
    have X3 : Hid (allN (pieceOk r.ps) r.pn = false → 3 = x) := fun e => by rw [← hx, hr.out, e]; rfl
    rw [hx]
    clear hx
    go_enter Try.func45, Try.ntmps45
    go_wp2_with (go_at_call 78; refine (spanOf_any _ _ _).mono ?_; rintro e w' ⟨rfl, hw'⟩; rw [hw', hs])
    obtain ⟨wo, hwo⟩ : ∃ wo : World, wo = w.alloc (.cells #[.int .i64 r.queue, .int .i64 r.fr, .int .i64 r.un, .int .i64 r.kind, .slice (some ⟨b, off, none⟩) r.pn r.pc] 25) := ⟨_, rfl⟩
    have c5 : wo.cell? ⟨w.heap.size, 4, none⟩ = some (.slice (some ⟨b, off, none⟩) r.pn r.pc) := by rw [hwo]; go_simp
    rw [← hwo] at HC B1
    rw [← hwo]
    clear hwo
    go_loop [3] (fun st => ∃ k : Nat, st = .int .i64 k ∧ k ≤ r.pn ∧ allN (pieceOk r.ps) k = true) (fun st => r.pn - (intOf st).toNat)
    case atStart => exact ⟨0, rfl, by omega, rfl⟩
    case round =>
      obtain ⟨k, rfl, hk, hall⟩ := hrel
      have HA := hid hall
      clear hall
      by_cases hlt : k < r.pn
      · have hlt' : (k : Int) < r.pn := by omega
        have d0 := (HC.out k hlt).1
        have d1 := (HC.out k hlt).2
        cases g1 : wth (rAt r.ps k) 1 24 with
        | false =>
          have g : pieceOk r.ps k = false := by rw [pieceOk, g1]; rfl
          go_wp2_with (go_at_call 36; refine (within_any _ _ _ _).mono ?_; rintro e w' ⟨rfl, hw'⟩; rw [hw', g1])
          go_ret
          exact ⟨ret_int (X3.out (allN_false g _ hlt)), B1.out⟩
        | true =>
          cases g2 : wth (rN r.ps k) 1 50 with
          | false =>
            have g : pieceOk r.ps k = false := by rw [pieceOk, g1, g2]; rfl
            go_wp2_with (go_at_call 36; refine (within_any _ _ _ _).mono ?_; rintro e w' ⟨rfl, hw'⟩; rw [hw']; (first | rw [g1] | rw [g2]))
            go_ret
            exact ⟨ret_int (X3.out (allN_false g _ hlt)), B1.out⟩
          | true =>
            have g : pieceOk r.ps k = true := by rw [pieceOk, g1, g2]; rfl
            go_wp2_with (go_at_call 36; refine (within_any _ _ _ _).mono ?_; rintro e w' ⟨rfl, hw'⟩; rw [hw']; (first | rw [g1] | rw [g2]))
            go_round
            case rel => exact ⟨k + 1, by go_num, by omega, by rw [allN, HA.out, g]; rfl⟩
            case measure => simp [intOf]; omega
      · obtain rfl : k = r.pn := by omega
        go_wp2
        go_ret
        exact ⟨ret_int (X0.out HA.out), B1.out⟩

theorem chkR_zero {r : Rq} : chkR false r = 0 ↔ wth r.kind 1 4 = true ∧ wth r.ps.length 1 3 = true ∧ rangeOk r = true := by
  unfold chkR
  constructor
  · intro h
    split at h <;> rename_i h1
    · split at h <;> rename_i h2
      · simp at h; exact ⟨h1, h2, by cases g : rangeOk r <;> simp [g] at h ⊢⟩
      · simp at h
    · simp at h
  · rintro ⟨h1, h2, h3⟩
    simp [h1, h2, h3]

set_option maxHeartbeats 1000000 in
theorem CheckReq_any (w : World) (a : Option Addr) (n cap : Nat) (l : QL) (hl : QsIn w a n cap l) (r : Rq) (h : RqIn w r) :
    Calls Try.prog 13 #[.slice a n cap, .agg #[.int .i64 r.queue, .int .i64 r.fr, .int .i64 r.un, .int .i64 r.kind, .slice r.pa r.pn r.pc]] w fun e w' => e = .returned (.int .i64 (chkQR l r)) ∧ Below w.heap.size w w' := by
  have hle := hl.le
  have hcb := hl.capb
  have HN := hid hl.len
  have B1 := hid ((Below.refl w.heap.size w).alloc (Nat.le_refl _) (.cells #[.int .i64 r.queue, .int .i64 r.fr, .int .i64 r.un, .int .i64 r.kind, .slice r.pa r.pn r.pc] 25))
  have K := hid (CheckTree_any _ a n cap l (hl.later B1.out))
  by_cases g : chkT l = 0
  · have hr : chkQR l r = chkR (missing n r.queue) r := by rw [chkQR, if_pos g, HN.out]
    rw [hr]
    have KC : Hid (∀ w1 : World, Below (w.alloc (.cells #[.int .i64 r.queue, .int .i64 r.fr, .int .i64 r.un, .int .i64 r.kind, .slice r.pa r.pn r.pc] 25)).heap.size (w.alloc (.cells #[.int .i64 r.queue, .int .i64 r.fr, .int .i64 r.un, .int .i64 r.kind, .slice r.pa r.pn r.pc] 25)) w1 → w1.cell? ⟨w.heap.size, 0, none⟩ = some (.int .i64 r.queue) ∧ w1.cell? ⟨w.heap.size, 1, none⟩ = some (.int .i64 r.fr) ∧ w1.cell? ⟨w.heap.size, 2, none⟩ = some (.int .i64 r.un) ∧ w1.cell? ⟨w.heap.size, 3, none⟩ = some (.int .i64 r.kind) ∧ w1.cell? ⟨w.heap.size, 4, none⟩ = some (.slice r.pa r.pn r.pc)) :=
      fun w1 B2 => ⟨cell_later B2 (by go_simp), cell_later B2 (by go_simp), cell_later B2 (by go_simp), cell_later B2 (by go_simp), cell_later B2 (by go_simp)⟩
    obtain ⟨x, hx⟩ : ∃ x : Int, chkR (missing n r.queue) r = x := ⟨_, rfl⟩
    rw [hx]
    have HX := hid hx
    clear hx hr
    cases g1 : wth r.kind 1 4 with
    | false =>
      have hx : Hid (7 = x) := by show 7 = x; rw [← HX.out, chkR, g1]; rfl
      go_enter Try.func13, Try.ntmps13
      go_wp2_with fail
      refine K.out.mono ?_
      rintro e w1 ⟨rfl, B2⟩
      rw [g]
      have B3 := hid (below_from B1.out B2)
      obtain ⟨c0, c1, c2, c3, c4⟩ := KC.out w1 B2
      clear B2
      go_wp2_with (go_at_call 43; refine (isKind_any _ _).mono ?_; rintro e w' ⟨rfl, hw'⟩; rw [hw', g1])
      go_ret
      exact ⟨ret_int hx.out, B3.out⟩
    | true =>
    cases g2 : wth r.ps.length 1 3 with
    | false =>
      have hx : Hid (2 = x) := by show 2 = x; rw [← HX.out, chkR, g1, g2]; rfl
      go_enter Try.func13, Try.ntmps13
      go_wp2_with fail
      refine K.out.mono ?_
      rintro e w1 ⟨rfl, B2⟩
      rw [g]
      have B3 := hid (below_from B1.out B2)
      obtain ⟨c0, c1, c2, c3, c4⟩ := KC.out w1 B2
      clear B2
      go_wp2_with (go_at_call 43; refine (isKind_any _ _).mono ?_; rintro e w' ⟨rfl, hw'⟩; rw [hw', g1])
      refine (piecesError_any w1 r (h.later B3.out)).mono ?_
      rintro e w2 ⟨rfl, B4⟩
      rw [g2]
      have B5 := hid (below_from B3.out B4)
      clear B4
      go_wp2
      go_ret
      exact ⟨ret_int hx.out, B5.out⟩
    | true =>
    cases g3 : wth r.queue 0 ((n : Int) - 1) with
    | false =>
      have hx : Hid (6 = x) := by show 6 = x; rw [← HX.out, chkR, g1, g2, missing, g3]; rfl
      go_enter Try.func13, Try.ntmps13
      go_wp2_with fail
      refine K.out.mono ?_
      rintro e w1 ⟨rfl, B2⟩
      rw [g]
      have B3 := hid (below_from B1.out B2)
      obtain ⟨c0, c1, c2, c3, c4⟩ := KC.out w1 B2
      have KC1 := hid (fun w2 (B4 : Below w1.heap.size w1 w2) => KC.out w2 (below_from B2 B4))
      clear B2
      go_wp2_with (go_at_call 43; refine (isKind_any _ _).mono ?_; rintro e w' ⟨rfl, hw'⟩; rw [hw', g1])
      refine (piecesError_any w1 r (h.later B3.out)).mono ?_
      rintro e w2 ⟨rfl, B4⟩
      rw [g2]
      have B5 := hid (below_from B3.out B4)
      clear c0 c1 c2 c3 c4
      obtain ⟨c0, c1, c2, c3, c4⟩ := KC1.out w2 B4
      clear B4
      go_wp2_with (go_at_call 36; refine (within_any _ _ _ _).mono ?_; rintro e w' ⟨rfl, hw'⟩; rw [hw', g3])
      go_ret
      exact ⟨ret_int hx.out, B5.out⟩
    | true =>
      have hx : Hid ((if rangeOk r = true then (0 : Int) else 3) = x) := by show (if rangeOk r = true then (0 : Int) else 3) = x; rw [← HX.out, chkR, g1, g2, missing, g3]; rfl
      have hp : 0 < r.pn := by have := of_decide_eq_true g2; have := h.len; omega
      go_enter Try.func13, Try.ntmps13
      go_wp2_with fail
      refine K.out.mono ?_
      rintro e w1 ⟨rfl, B2⟩
      rw [g]
      have B3 := hid (below_from B1.out B2)
      obtain ⟨c0, c1, c2, c3, c4⟩ := KC.out w1 B2
      have KC1 := hid (fun w2 (B4 : Below w1.heap.size w1 w2) => KC.out w2 (below_from B2 B4))
      clear B2
      go_wp2_with (go_at_call 43; refine (isKind_any _ _).mono ?_; rintro e w' ⟨rfl, hw'⟩; rw [hw', g1])
      refine (piecesError_any w1 r (h.later B3.out)).mono ?_
      rintro e w2 ⟨rfl, B4⟩
      rw [g2]
      have B5 := hid (below_from B3.out B4)
      clear c0 c1 c2 c3 c4
      obtain ⟨c0, c1, c2, c3, c4⟩ := KC1.out w2 B4
      clear B4
      go_wp2_with (go_at_call 36; refine (within_any _ _ _ _).mono ?_; rintro e w' ⟨rfl, hw'⟩; rw [hw', g3])
      refine (rangeError_any w2 r (h.later B5.out) hp).mono ?_
      rintro e w3 ⟨rfl, B6⟩
      rw [hx.out]
      have B7 := hid (below_from B5.out B6)
      clear B6
      go_wp2
      go_ret
      exact ⟨rfl, B7.out⟩
  · have hr : chkQR l r = chkT l := by rw [chkQR, if_neg g]
    rw [hr]
    obtain ⟨x, hx⟩ : ∃ x, chkT l = x := ⟨_, rfl⟩
    rw [hx] at g K
    rw [hx]
    go_enter Try.func13, Try.ntmps13
    go_wp2_with fail
    refine K.out.mono ?_
    rintro e w1 ⟨rfl, B2⟩
    have B3 := hid (below_from B1.out B2)
    clear B2
    go_wp2
    go_ret
    exact ⟨rfl, B3.out⟩

set_option maxHeartbeats 1000000 in
theorem shaped_any (w : World) (r : Rq) (h : RqIn w r) :
    Calls Try.prog 35 #[.agg #[.int .i64 r.queue, .int .i64 r.fr, .int .i64 r.un, .int .i64 r.kind, .slice r.pa r.pn r.pc]] w fun e w' => e = .returned (.bool (decide (chkR false r = 0))) ∧ Below w.heap.size w w' := by
  have B1 := hid ((Below.refl w.heap.size w).alloc (Nat.le_refl _) (.cells #[.int .i64 r.queue, .int .i64 r.fr, .int .i64 r.un, .int .i64 r.kind, .slice r.pa r.pn r.pc] 25))
  have KC : Hid (∀ w1 : World, Below (w.alloc (.cells #[.int .i64 r.queue, .int .i64 r.fr, .int .i64 r.un, .int .i64 r.kind, .slice r.pa r.pn r.pc] 25)).heap.size (w.alloc (.cells #[.int .i64 r.queue, .int .i64 r.fr, .int .i64 r.un, .int .i64 r.kind, .slice r.pa r.pn r.pc] 25)) w1 → w1.cell? ⟨w.heap.size, 0, none⟩ = some (.int .i64 r.queue) ∧ w1.cell? ⟨w.heap.size, 1, none⟩ = some (.int .i64 r.fr) ∧ w1.cell? ⟨w.heap.size, 2, none⟩ = some (.int .i64 r.un) ∧ w1.cell? ⟨w.heap.size, 3, none⟩ = some (.int .i64 r.kind) ∧ w1.cell? ⟨w.heap.size, 4, none⟩ = some (.slice r.pa r.pn r.pc)) :=
    fun w1 B2 => ⟨cell_later B2 (by go_simp), cell_later B2 (by go_simp), cell_later B2 (by go_simp), cell_later B2 (by go_simp), cell_later B2 (by go_simp)⟩
  cases g1 : wth r.kind 1 4 with
  | false =>
    have hx : decide (chkR false r = 0) = false := by apply decide_eq_false; rw [chkR_zero, g1]; simp
    rw [hx]
    go_enter Try.func35, Try.ntmps35
    go_wp2_with (go_at_call 43; refine (isKind_any _ _).mono ?_; rintro e w' ⟨rfl, hw'⟩; rw [hw', g1])
    go_ret
    exact ⟨rfl, B1.out⟩
  | true =>
  cases g2 : wth r.ps.length 1 3 with
  | false =>
    have hx : decide (chkR false r = 0) = false := by apply decide_eq_false; rw [chkR_zero, g2]; simp
    rw [hx]
    go_enter Try.func35, Try.ntmps35
    go_wp2_with (go_at_call 43; refine (isKind_any _ _).mono ?_; rintro e w' ⟨rfl, hw'⟩; rw [hw', g1])
    refine (piecesError_any _ r (h.later B1.out)).mono ?_
    rintro e w2 ⟨rfl, B4⟩
    rw [g2]
    have B5 := hid (below_from B1.out B4)
    clear B4
    go_wp2
    go_ret
    exact ⟨rfl, B5.out⟩
  | true =>
    have hp : 0 < r.pn := by have := of_decide_eq_true g2; have := h.len; omega
    have hx : Hid (decide (chkR false r = 0) = rangeOk r) := by show decide (chkR false r = 0) = rangeOk r; rw [Bool.eq_iff_iff, decide_eq_true_iff, chkR_zero, g1, g2]; simp
    rw [hx.out]
    cases g3 : rangeOk r
    all_goals
      go_enter Try.func35, Try.ntmps35
      go_wp2_with (go_at_call 43; refine (isKind_any _ _).mono ?_; rintro e w' ⟨rfl, hw'⟩; rw [hw', g1])
      refine (piecesError_any _ r (h.later B1.out)).mono ?_
      rintro e w2 ⟨rfl, B4⟩
      rw [g2]
      have B5 := hid (below_from B1.out B4)
      obtain ⟨c0, c1, c2, c3, c4⟩ := KC.out w2 B4
      clear B4
      go_wp2_with fail
      refine (rangeError_any w2 r (h.later B5.out) hp).mono ?_
      rintro e w3 ⟨rfl, B6⟩
      rw [g3]
      have B7 := hid (below_from B5.out B6)
      clear B6
      go_wp2
      go_ret
      exact ⟨rfl, B7.out⟩
end Go.Proofs.Ytcgchicdmgllaab
