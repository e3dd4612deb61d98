/- Contracts of req's noPiece, over, wanted, follows and Meets: are the bites what the request wants? -/
import Derived.Test.YtcgchicdmgllaadReqB
import Derived.Deep.RegionHeld3
namespace Go.Proofs.Ytcgchicdmgllaad
open Go.RowKit

/-- the bites are pairs (Piece, At) -/
def isPiece (r : Rq) (b : RunL) (i : Nat) : Bool := wth (rAt b i) 0 ((r.ps.length : Int) - 1)
def lenOf (r : Rq) (b : RunL) (i : Nat) : Int := rAt r.ps (rAt b i).toNat
def overAt (r : Rq) (b : RunL) (i : Nat) : Int := rN b i + lenOf r b i
def wantedN (r : Rq) : Int := if r.kind = 2 then 1 else r.ps.length
def followsB (r : Rq) (b : RunL) (i j : Nat) : Bool := decide (rAt b i < rAt b j) && (if r.kind = 3 then decide (overAt r b i ≤ rN b j) else if r.kind = 4 then decide (rN b j = overAt r b i) else true)
def inTime (r : Rq) (b : RunL) (i : Nat) : Bool := decide (r.fr ≤ rN b i ∧ rN b i ≤ r.un - lenOf r b i)
def biteOk (r : Rq) (b : RunL) (i : Nat) : Bool := (isPiece r b i && inTime r b i) && (decide (i = 0) || followsB r b (i - 1) i)
/-- C2 -/
def meets (r : Rq) (b : RunL) : Bool := decide (chkR false r = 0) && (decide ((b.length : Int) = wantedN r) && allN (biteOk r b) b.length)

theorem noPiece_any (w : World) (r : Rq) (h : RqIn w r) (p t : Int) :
    Calls Try.prog 42 #[.agg #[.int .i64 r.queue, .int .i64 r.fr, .int .i64 r.un, .int .i64 r.kind, .slice r.pa r.pn r.pc], .agg #[.int .i64 p, .int .i64 t]] w fun e w' => e = .returned (.bool (!wth p 0 ((r.ps.length : Int) - 1))) ∧ Below w.heap.size w w' := by
  have hn := h.len
  have hcb := h.capb
  have hle := h.le
  rw [← hn]
  clear hn
  go_enter Try.func42, Try.ntmps42
  go_wp2
  all_goals
    go_ret
    refine ⟨ret_bool ?_, ((Below.refl _ _).alloc (Nat.le_refl _) _).alloc (by simp) _⟩
    rw [Bool.eq_iff_iff]; simp [wth]; try omega

theorem over_any (w : World) (r : Rq) (h : RqIn w r) (p t : Int) (hp : 0 ≤ p ∧ p < r.ps.length) (hL : 0 ≤ rAt r.ps p.toNat ∧ rAt r.ps p.toNat ≤ 24) (hT : 0 ≤ t ∧ t ≤ 48) :
    Calls Try.prog 43 #[.agg #[.int .i64 r.queue, .int .i64 r.fr, .int .i64 r.un, .int .i64 r.kind, .slice r.pa r.pn r.pc], .agg #[.int .i64 p, .int .i64 t]] w fun e w' => e = .returned (.int .i64 (t + rAt r.ps p.toNat)) ∧ Below w.heap.size w w' := by
  have hn := h.len
  have hcb := h.capb
  have hle := h.le
  obtain ⟨b, off, hpa, hc⟩ := h.cells (by omega)
  obtain ⟨hp0, hp1⟩ := hp
  obtain ⟨P, rfl⟩ := Int.eq_ofNat_of_zero_le hp0
  rw [Int.toNat_natCast] at hL ⊢
  have hP : P < r.pn := by omega
  have hP' : (P : Int) < r.pn := by omega
  have B1 := hid (((Below.refl w.heap.size w).alloc (Nat.le_refl _) (.cells #[.int .i64 r.queue, .int .i64 r.fr, .int .i64 r.un, .int .i64 r.kind, .slice r.pa r.pn r.pc] 37)).alloc (by simp) (.cells #[.int .i64 P, .int .i64 t] 83))
  have c0 := cell_later B1.out (hc P hP).1
  rw [hpa] at c0 B1
  rw [hpa]
  obtain ⟨x, hx⟩ : ∃ x, rAt r.ps P = x := ⟨_, rfl⟩
  rw [hx] at c0 hL
  rw [hx]
  have hw : IntKind.i64.wrap (t + x) = t + x := by rw [IntKind.wrap_i64]; omega
  clear hc hn hx hpa
  go_enter Try.func43, Try.ntmps43
  go_wp2
  go_quiet (fail)
  go_wp2
  go_ret
  exact ⟨rfl, below_drewN B1.out _⟩
theorem wanted_any (w : World) (r : Rq) (h : RqIn w r) :
    Calls Try.prog 46 #[.agg #[.int .i64 r.queue, .int .i64 r.fr, .int .i64 r.un, .int .i64 r.kind, .slice r.pa r.pn r.pc]] w fun e w' => e = .returned (.int .i64 (wantedN r)) ∧ Below w.heap.size w w' := by
  have hn := h.len
  have hcb := h.capb
  have hle := h.le
  by_cases g : r.kind = 2
  · have hr : wantedN r = 1 := by rw [wantedN, if_pos g]
    rw [hr]
    clear hn
    go_enter Try.func46, Try.ntmps46
    go_wp2
    go_ret
    exact ⟨rfl, (Below.refl _ _).alloc (Nat.le_refl _) _⟩
  · have hr : wantedN r = r.pn := by rw [wantedN, if_neg g, hn]
    rw [hr]
    clear hn
    go_enter Try.func46, Try.ntmps46
    go_wp2
    go_ret
    exact ⟨rfl, (Below.refl _ _).alloc (Nat.le_refl _) _⟩

def followsV (r : Rq) (p0 t0 p1 t1 : Int) : Bool := decide (p0 < p1) && (if r.kind = 3 then decide (t0 + rAt r.ps p0.toNat ≤ t1) else if r.kind = 4 then decide (t1 = t0 + rAt r.ps p0.toNat) else true)

set_option maxHeartbeats 1000000 in
theorem follows_any (w : World) (r : Rq) (h : RqIn w r) (p0 t0 p1 t1 : Int) (hp : 0 ≤ p0 ∧ p0 < r.ps.length) (hL : 0 ≤ rAt r.ps p0.toNat ∧ rAt r.ps p0.toNat ≤ 24) (hT : 0 ≤ t0 ∧ t0 ≤ 48) :
    Calls Try.prog 47 #[.agg #[.int .i64 r.queue, .int .i64 r.fr, .int .i64 r.un, .int .i64 r.kind, .slice r.pa r.pn r.pc], .agg #[.int .i64 p0, .int .i64 t0], .agg #[.int .i64 p1, .int .i64 t1]] w fun e w' => e = .returned (.bool (followsV r p0 t0 p1 t1)) ∧ Below w.heap.size w w' := by
  have B1 := hid ((((Below.refl w.heap.size w).alloc (Nat.le_refl _) (.cells #[.int .i64 r.queue, .int .i64 r.fr, .int .i64 r.un, .int .i64 r.kind, .slice r.pa r.pn r.pc] 37)).alloc (by simp) (.cells #[.int .i64 p0, .int .i64 t0] 83)).alloc (by simp; omega) (.cells #[.int .i64 p1, .int .i64 t1] 83))
  have K := hid fun w1 (hb : Below w.heap.size w w1) => over_any w1 r (h.later hb) p0 t0 hp hL hT
  have HL := hid hL
  have HP := hid hp
  clear hp hL hT
  by_cases g1 : p1 ≤ p0
  · have hr : followsV r p0 t0 p1 t1 = false := by simp [followsV]; omega
    rw [hr]
    go_enter Try.func47, Try.ntmps47
    go_wp2
    go_ret
    exact ⟨rfl, B1.out⟩
  by_cases g2 : r.kind = 3
  · have hr : Hid (followsV r p0 t0 p1 t1 = decide (t0 + rAt r.ps p0.toNat ≤ t1)) := by
      show followsV r p0 t0 p1 t1 = decide (t0 + rAt r.ps p0.toNat ≤ t1)
      rw [followsV, if_pos g2, decide_eq_true (show p0 < p1 by omega)]; rfl
    rw [hr.out]
    rw [g2] at K B1
    go_enter Try.func47, Try.ntmps47
    go_wp2_with fail
    obtain ⟨W, hW⟩ : ∃ W, W = ((w.alloc (.cells #[.int .i64 r.queue, .int .i64 r.fr, .int .i64 r.un, .int .i64 3, .slice r.pa r.pn r.pc] 37)).alloc (.cells #[.int .i64 p0, .int .i64 t0] 83)).alloc (.cells #[.int .i64 p1, .int .i64 t1] 83) := ⟨_, rfl⟩
    rw [← hW] at B1
    rw [← hW]
    have c0 : W.cell? ⟨w.heap.size, 0, none⟩ = some (.int .i64 r.queue) := by rw [hW]; go_simp
    have c1 : W.cell? ⟨w.heap.size, 1, none⟩ = some (.int .i64 r.fr) := by rw [hW]; go_simp
    have c2 : W.cell? ⟨w.heap.size, 2, none⟩ = some (.int .i64 r.un) := by rw [hW]; go_simp
    have c3 : W.cell? ⟨w.heap.size, 3, none⟩ = some (.int .i64 3) := by rw [hW]; go_simp
    have c4 : W.cell? ⟨w.heap.size, 4, none⟩ = some (.slice r.pa r.pn r.pc) := by rw [hW]; go_simp
    have c5 : W.cell? ⟨w.heap.size + 1, 0, none⟩ = some (.int .i64 p0) := by rw [hW]; go_simp
    have c6 : W.cell? ⟨w.heap.size + 1, 1, none⟩ = some (.int .i64 t0) := by rw [hW]; go_simp
    have c7 : W.cell? ⟨w.heap.size + 1 + 1, 1, none⟩ = some (.int .i64 t1) := by rw [hW]; go_simp
    clear hW
    obtain ⟨x, hx⟩ : ∃ x, rAt r.ps p0.toNat = x := ⟨_, rfl⟩
    rw [hx] at K
    go_region_held3 (fun X => Below w.heap.size w X ∧ X.cell? ⟨w.heap.size, 0, none⟩ = some (.int .i64 r.queue) ∧ X.cell? ⟨w.heap.size, 1, none⟩ = some (.int .i64 r.fr) ∧ X.cell? ⟨w.heap.size, 2, none⟩ = some (.int .i64 r.un) ∧ X.cell? ⟨w.heap.size, 3, none⟩ = some (.int .i64 3) ∧ X.cell? ⟨w.heap.size, 4, none⟩ = some (.slice r.pa r.pn r.pc) ∧ X.cell? ⟨w.heap.size + 1, 0, none⟩ = some (.int .i64 p0) ∧ X.cell? ⟨w.heap.size + 1, 1, none⟩ = some (.int .i64 t0) ∧ X.cell? ⟨w.heap.size + 1 + 1, 1, none⟩ = some (.int .i64 t1))
      (first | exact ⟨below_drewN B1.out 1, c0, c1, c2, c3, c4, c5, c6, c7⟩ | exact ⟨below_from (below_drewN B1.out 1) BB, cell_later BB c0, cell_later BB c1, cell_later BB c2, cell_later BB c3, cell_later BB c4, cell_later BB c5, cell_later BB c6, cell_later BB c7⟩)
      ((go_at_call 43; refine (K.out _ (below_drewN B1.out 1)).mono ?_; rintro e w' ⟨rfl, BB⟩))
    rename_i hH
    have B9 := hid hH.1
    have HX := hid hx
    clear hH BB c0 c1 c2 c3 c4 c5 c6 c7 hx
    go_wp2
    go_ret
    exact ⟨ret_bool (by have := HX.out; subst this; rw [Bool.eq_iff_iff]; try simp), B9.out⟩

  by_cases g3 : r.kind = 4
  · have g2' := g2
    have g2 := g3
    have hr : Hid (followsV r p0 t0 p1 t1 = decide (t1 = t0 + rAt r.ps p0.toNat)) := by
      show followsV r p0 t0 p1 t1 = decide (t1 = t0 + rAt r.ps p0.toNat)
      rw [followsV, if_neg g2', if_pos g3, decide_eq_true (show p0 < p1 by omega)]; rfl
    rw [hr.out]
    rw [g2] at K B1
    go_enter Try.func47, Try.ntmps47
    go_wp2_with fail
    obtain ⟨W, hW⟩ : ∃ W, W = ((w.alloc (.cells #[.int .i64 r.queue, .int .i64 r.fr, .int .i64 r.un, .int .i64 4, .slice r.pa r.pn r.pc] 37)).alloc (.cells #[.int .i64 p0, .int .i64 t0] 83)).alloc (.cells #[.int .i64 p1, .int .i64 t1] 83) := ⟨_, rfl⟩
    rw [← hW] at B1
    rw [← hW]
    have c0 : W.cell? ⟨w.heap.size, 0, none⟩ = some (.int .i64 r.queue) := by rw [hW]; go_simp
    have c1 : W.cell? ⟨w.heap.size, 1, none⟩ = some (.int .i64 r.fr) := by rw [hW]; go_simp
    have c2 : W.cell? ⟨w.heap.size, 2, none⟩ = some (.int .i64 r.un) := by rw [hW]; go_simp
    have c3 : W.cell? ⟨w.heap.size, 3, none⟩ = some (.int .i64 4) := by rw [hW]; go_simp
    have c4 : W.cell? ⟨w.heap.size, 4, none⟩ = some (.slice r.pa r.pn r.pc) := by rw [hW]; go_simp
    have c5 : W.cell? ⟨w.heap.size + 1, 0, none⟩ = some (.int .i64 p0) := by rw [hW]; go_simp
    have c6 : W.cell? ⟨w.heap.size + 1, 1, none⟩ = some (.int .i64 t0) := by rw [hW]; go_simp
    have c7 : W.cell? ⟨w.heap.size + 1 + 1, 1, none⟩ = some (.int .i64 t1) := by rw [hW]; go_simp
    clear hW
    obtain ⟨x, hx⟩ : ∃ x, rAt r.ps p0.toNat = x := ⟨_, rfl⟩
    rw [hx] at K
    go_region_held3 (fun X => Below w.heap.size w X ∧ X.cell? ⟨w.heap.size, 0, none⟩ = some (.int .i64 r.queue) ∧ X.cell? ⟨w.heap.size, 1, none⟩ = some (.int .i64 r.fr) ∧ X.cell? ⟨w.heap.size, 2, none⟩ = some (.int .i64 r.un) ∧ X.cell? ⟨w.heap.size, 3, none⟩ = some (.int .i64 4) ∧ X.cell? ⟨w.heap.size, 4, none⟩ = some (.slice r.pa r.pn r.pc) ∧ X.cell? ⟨w.heap.size + 1, 0, none⟩ = some (.int .i64 p0) ∧ X.cell? ⟨w.heap.size + 1, 1, none⟩ = some (.int .i64 t0) ∧ X.cell? ⟨w.heap.size + 1 + 1, 1, none⟩ = some (.int .i64 t1))
      (first | exact ⟨below_drewN B1.out 1, c0, c1, c2, c3, c4, c5, c6, c7⟩ | exact ⟨below_from (below_drewN B1.out 1) BB, cell_later BB c0, cell_later BB c1, cell_later BB c2, cell_later BB c3, cell_later BB c4, cell_later BB c5, cell_later BB c6, cell_later BB c7⟩)
      ((go_at_call 43; refine (K.out _ (below_drewN B1.out 1)).mono ?_; rintro e w' ⟨rfl, BB⟩))
    rename_i hH
    have B9 := hid hH.1
    have HX := hid hx
    clear hH BB c0 c1 c2 c3 c4 c5 c6 c7 hx
    go_wp2
    go_ret
    exact ⟨ret_bool (by have := HX.out; subst this; rw [Bool.eq_iff_iff]; try simp), B9.out⟩

  · have hr : followsV r p0 t0 p1 t1 = true := by
      rw [followsV, if_neg g2, if_neg g3, decide_eq_true (show p0 < p1 by omega)]; rfl
    rw [hr]
    go_enter Try.func47, Try.ntmps47
    go_wp2
    go_ret
    exact ⟨rfl, B1.out⟩
end Go.Proofs.Ytcgchicdmgllaad
