/- Contracts of package seek: Check, Place. -/
import Derived.Test.YtcgchicdmgllaafPlanD
import Derived.Test.YtcgchicdmgllaafFrameS
namespace Go.Proofs.Ytcgchicdmgllaaf
open Go.RowKit

/-- a box with a request in it -/
def RqBox (w : World) (B : Nat) (r : Rq) : Prop := w.heap[B]? = some (.cells #[.int .i64 r.queue, .int .i64 r.fr, .int .i64 r.un, .int .i64 r.kind, .slice r.pa r.pn r.pc] 28 (0, 0))
theorem RqBox.later {w w' : World} {B : Nat} {r : Rq} (h : RqBox w B r) (hb : Below w.heap.size w w') : RqBox w' B r := (hb.block _ (Array.getElem?_eq_some_iff.1 h).1).trans h
theorem RqBox.cells {w : World} {B : Nat} {r : Rq} (h : RqBox w B r) : w.cell? ⟨B, 0, none⟩ = some (.int .i64 r.queue) ∧ w.cell? ⟨B, 1, none⟩ = some (.int .i64 r.fr) ∧ w.cell? ⟨B, 2, none⟩ = some (.int .i64 r.un) ∧ w.cell? ⟨B, 3, none⟩ = some (.int .i64 r.kind) ∧ w.cell? ⟨B, 4, none⟩ = some (.slice r.pa r.pn r.pc) := by
  unfold RqBox at h
  refine ⟨?_, ?_, ?_, ?_, ?_⟩ <;> (rw [cell_of_row w B _ _ _ _ h]; rfl)
/-- a state's box, and behind it a request's -/
theorem two_boxes (w : World) (a b c d : Value) (r : Rq) {W : World} (hW : W = (w.alloc (.cells #[a, b, c, d] 25)).alloc (.cells #[.int .i64 r.queue, .int .i64 r.fr, .int .i64 r.un, .int .i64 r.kind, .slice r.pa r.pn r.pc] 28)) : StBox W w.heap.size a b c d ∧ RqBox W (w.heap.size + 1) r ∧ Below w.heap.size w W ∧ W.heap.size = w.heap.size + 2 := by
  subst hW
  refine ⟨(Below.heap_alloc _ _ _ (by simp)).trans (heap_alloc_new w _), ?_, ((Below.refl _ _).alloc (Nat.le_refl _) _).alloc (by simp) _, by simp⟩
  have := heap_alloc_new (w.alloc (.cells #[a, b, c, d] 25)) (.cells #[.int .i64 r.queue, .int .i64 r.fr, .int .i64 r.un, .int .i64 r.kind, .slice r.pa r.pn r.pc] 28)
  rw [World.size_alloc] at this
  exact this

def seekE (c n : Int) (l : QL) (b : BL) (r : Rq) : Int := if planE c n l b = 0 then (if chkQR l r = 0 then (if r.fr < c then 9 else 0) else chkQR l r) else planE c n l b
set_option maxRecDepth 100000 in
set_option maxHeartbeats 1000000 in
theorem seekCheck_any (w : World) (c n : Int) (ta : Option Addr) (tn tc : Nat) (l : QL) (ba : Option Addr) (bn bc : Nat) (b : BL) (h : StIn w ta tn tc l ba bn bc b) (r : Rq) (hr : RqIn w r) :
    Calls Try.prog 15 #[.agg #[.int .i64 c, .int .i64 n, .slice ta tn tc, .slice ba bn bc], .agg #[.int .i64 r.queue, .int .i64 r.fr, .int .i64 r.un, .int .i64 r.kind, .slice r.pa r.pn r.pc]] w fun e w' => e = .returned (.int .i64 (seekE c n l b r)) ∧ Below w.heap.size w w' := by
  obtain ⟨S, hS⟩ : ∃ S, w.heap.size = S := ⟨_, rfl⟩
  obtain ⟨W1, hW1⟩ : ∃ W1, W1 = (w.alloc (.cells #[.int .i64 c, .int .i64 n, .slice ta tn tc, .slice ba bn bc] 25)).alloc (.cells #[.int .i64 r.queue, .int .i64 r.fr, .int .i64 r.un, .int .i64 r.kind, .slice r.pa r.pn r.pc] 28) := ⟨_, rfl⟩
  obtain ⟨x1, x2, hb0, _⟩ := two_boxes w _ _ _ _ r hW1
  rw [hS] at x1 x2
  have X1 := hid x1
  have X2 := hid x2
  have HB0 := hid hb0
  have HW1 := hid hW1
  have K1 := CheckS_any W1 c n ta tn tc l ba bn bc b (h.later hb0)
  have K2 := hid fun X (hX : Below w.heap.size w X) => CheckRq_any X ta tn tc l (h.1.later hX) r (RqIn.later hr hX)
  obtain ⟨c0, c1, c2, c3⟩ := x1.cells
  clear hW1 x1 x2 hb0 h hr
  by_cases h1 : planE c n l b = 0
  · have e1 : seekE c n l b r = if chkQR l r = 0 then (if r.fr < c then 9 else 0) else chkQR l r := if_pos h1
    rw [e1]
    rw [h1] at K1
    have HK1 := hid K1
    clear e1 K1 h1
    obtain ⟨E, hE⟩ : ∃ E, chkQR l r = E := ⟨_, rfl⟩
    rw [hE] at K2
    rw [hE]
    clear hE
    go_enter Try.func15, Try.ntmps15
    go_wp2_with fail
    rw [← HW1.out]
    refine HK1.out.mono ?_
    rintro e w1 ⟨rfl, hb⟩
    have HB1 := hid (below_from HB0.out hb)
    have X11 := hid (X1.out.later hb)
    have X21 := hid (X2.out.later hb)
    clear hb c0 c1 c2 c3
    obtain ⟨c0, c1, c2, c3⟩ := X11.out.cells
    obtain ⟨d0, d1, d2, d3, d4⟩ := X21.out.cells
    go_wp2_with fail
    refine (K2.out w1 HB1.out).mono ?_
    rintro e w2 ⟨rfl, hb⟩
    have HB2 := hid (below_from HB1.out hb)
    obtain ⟨f0, f1, f2, f3⟩ := (X11.out.later hb).cells
    obtain ⟨g0, g1, g2, g3, g4⟩ := (X21.out.later hb).cells
    clear hb c0 c1 c2 c3 d0 d1 d2 d3 d4
    by_cases h2 : E = 0
    · subst h2
      by_cases h3 : r.fr < c
      · go_wp2
        go_ret
        refine ⟨?_, by first | exact HB2.out | exact hS ▸ HB2.out⟩
        first | rfl | (rw [if_pos rfl, if_pos h3]; rfl) | (rw [if_pos h3]; rfl)
      · go_wp2
        go_ret
        refine ⟨?_, by first | exact HB2.out | exact hS ▸ HB2.out⟩
        first | rfl | (rw [if_pos rfl, if_neg h3]; rfl) | (rw [if_neg h3]; rfl)
    · have hne : (E != 0) = true := by simp [h2]
      have H2 := hid h2
      clear h2
      go_wp2
      go_ret
      refine ⟨?_, by first | exact HB2.out | exact hS ▸ HB2.out⟩
      first | rfl | (rw [if_neg H2.out]; rfl)
  · have e1 : seekE c n l b r = planE c n l b := if_neg h1
    rw [e1]
    obtain ⟨er, her⟩ : ∃ er, planE c n l b = er := ⟨_, rfl⟩
    rw [her] at K1 h1
    rw [her]
    have hne : (er != 0) = true := by simp [h1]
    have HK1 := hid K1
    clear e1 K1 h1 her
    go_enter Try.func15, Try.ntmps15
    go_wp2_with fail
    rw [← HW1.out]
    refine HK1.out.mono ?_
    rintro e w1 ⟨rfl, hb⟩
    have HB1 := hid (below_from HB0.out hb)
    clear hb
    go_wp2
    go_ret
    exact ⟨rfl, HB1.out⟩

def placeR (l : QL) (b : BL) (r : Rq) : RunL × Bool := if roomE l b r.queue = 0 then (if placeErr (roomR l b r.queue) r = 0 then findA r (roomR l b r.queue) else ([], false)) else ([], false)
set_option maxRecDepth 100000 in
set_option maxHeartbeats 1000000 in
theorem seekPlace_any (w : World) (c n : Int) (ta : Option Addr) (tn tc : Nat) (l : QL) (ba : Option Addr) (bn bc : Nat) (b : BL) (h : StIn w ta tn tc l ba bn bc b) (r : Rq) (hr : RqIn w r) :
    Calls Try.prog 16 #[.agg #[.int .i64 c, .int .i64 n, .slice ta tn tc, .slice ba bn bc], .agg #[.int .i64 r.queue, .int .i64 r.fr, .int .i64 r.un, .int .i64 r.kind, .slice r.pa r.pn r.pc]] w fun e w' => GivesB w w' e (placeR l b r) := by
  obtain ⟨S, hS⟩ : ∃ S, w.heap.size = S := ⟨_, rfl⟩
  obtain ⟨W1, hW1⟩ : ∃ W1, W1 = (w.alloc (.cells #[.int .i64 c, .int .i64 n, .slice ta tn tc, .slice ba bn bc] 25)).alloc (.cells #[.int .i64 r.queue, .int .i64 r.fr, .int .i64 r.un, .int .i64 r.kind, .slice r.pa r.pn r.pc] 28) := ⟨_, rfl⟩
  obtain ⟨x1, x2, hb0, _⟩ := two_boxes w _ _ _ _ r hW1
  rw [hS] at x1 x2
  have X2 := hid x2
  have HB0 := hid hb0
  have HW1 := hid hW1
  have K1 := RoomOf_any W1 ta tn tc l (h.1.later hb0) ba bn bc b (h.2.later hb0) r.queue
  have K2 := hid fun X (hX : Below w.heap.size w X) la ln lc (hf : RunsIn X la ln lc (roomR l b r.queue)) => Find_any X r (RqIn.later hr hX) la ln lc (roomR l b r.queue) hf
  obtain ⟨c0, c1, c2, c3⟩ := x1.cells
  obtain ⟨d0, d1, d2, d3, d4⟩ := x2.cells
  clear hW1 x1 x2 hb0 h hr
  by_cases h1 : roomE l b r.queue = 0
  · have e1 : placeR l b r = if placeErr (roomR l b r.queue) r = 0 then findA r (roomR l b r.queue) else ([], false) := if_pos h1
    rw [e1]
    rw [h1, if_pos rfl] at K1
    have HK1 := hid K1
    obtain ⟨A, hA⟩ : ∃ A, (if placeErr (roomR l b r.queue) r = 0 then findA r (roomR l b r.queue) else ([], false)) = A := ⟨_, rfl⟩
    rw [hA] at K2
    rw [hA]
    obtain ⟨P, hP⟩ : ∃ P, placeErr (roomR l b r.queue) r = P := ⟨_, rfl⟩
    rw [hP] at K2
    obtain ⟨F, hF⟩ : ∃ F, roomR l b r.queue = F := ⟨_, rfl⟩
    rw [hF] at K2 HK1
    clear e1 K1 h1 hA hP hF
    go_enter Try.func16, Try.ntmps16
    go_wp2_with fail
    rw [← HW1.out]
    refine HK1.out.mono ?_
    rintro e w1 ⟨a1, n1, k1, rfl, hR, hb⟩
    simp only at hR
    have HB1 := hid (below_from HB0.out hb)
    have HR := hid hR
    have X21 := hid (X2.out.later hb)
    clear hb hR c0 c1 c2 c3 d0 d1 d2 d3 d4
    obtain ⟨d0, d1, d2, d3, d4⟩ := X21.out.cells
    go_wp2_with fail
    refine (K2.out w1 HB1.out _ _ _ HR.out).mono ?_
    rintro e w2 ⟨a2, n2, k2, rfl, hR2, hb⟩
    have HB2 := hid (below_from HB1.out hb)
    have HR2 := hid hR2
    obtain ⟨A1, A2⟩ := A
    clear hb hR2 d0 d1 d2 d3 d4
    go_wp2
    go_ret2
    exact ⟨a2, n2, k2, rfl, HR2.out.mono (by have := HB1.out.size; omega), HB2.out⟩
  · have e1 : placeR l b r = ([], false) := if_neg h1
    rw [e1]
    obtain ⟨er, her⟩ : ∃ er, roomE l b r.queue = er := ⟨_, rfl⟩
    rw [her] at K1 h1
    rw [if_neg h1] at K1
    have hne : (er != 0) = true := by simp [h1]
    have HK1 := hid K1
    clear e1 K1 h1 her
    go_enter Try.func16, Try.ntmps16
    go_wp2_with fail
    rw [← HW1.out]
    refine HK1.out.mono ?_
    rintro e w1 ⟨a1, n1, k1, rfl, hR, hb⟩
    have HB1 := hid (below_from HB0.out hb)
    clear hb hR
    go_wp2
    go_ret2
    exact givesB_no HB1.out
end Go.Proofs.Ytcgchicdmgllaaf
