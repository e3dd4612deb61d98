/- Contracts of the statements' own plot, and what the calls answer of it; laws for a region that is cut. -/
import Derived.Test.YtcgchicdmgllaadReqG
import Derived.Test.YtcgchicdmgllaadTreeJ
import Derived.Test.YtcgchicdmgllaadRunsD
namespace Go.Proofs.Ytcgchicdmgllaad
open Go.RowKit

theorem pairs_lit (w : World) (l : RunL) (c : Array Value) (t : TypeId) (n : Nat) (hc : c.toList = cellsOf l) (hn : n = l.length) (hb : l.length ≤ 48) : RunsIn (w.alloc (.cells c t)) (some ⟨w.heap.size, 0, none⟩) n n l := by
  refine ⟨hn, Nat.le_refl _, by omega, by omega, fun _ => ⟨w.heap.size, 0, rfl, fun i hi => ?_⟩⟩
  rw [World.cell?_alloc_at _ _ _ _ rfl, World.cell?_alloc_at _ _ _ _ rfl]
  have h1 := cellsOf_even l i (by omega)
  have h2 := cellsOf_odd l i (by omega)
  rw [← hc] at h1 h2
  simp only [Array.getElem?_toList] at h1 h2
  rw [Nat.zero_add]
  exact ⟨h1, h2⟩
/-- the plot, its pieces in block c -/
def plotR (c : Nat) (q kind : Int) : Rq := ⟨q, 2, 30, kind, some ⟨c, 0, none⟩, 2, 2, [(4, 3), (5, 6)]⟩
theorem plot_any (w : World) (kind : Int) : Calls Try.prog 63 #[.int .i64 kind] w fun e w' => e = .returned (.agg #[.int .i64 3, .int .i64 2, .int .i64 30, .int .i64 kind, .slice (some ⟨w.heap.size + 1, 0, none⟩) 2 2]) ∧ RqIn w' (plotR (w.heap.size + 1) 3 kind) ∧ Below w.heap.size w w' := by
  go_enter Try.func63, Try.ntmps63
  go_wp2
  have hB : Below w.heap.size w ((w.alloc (.cells #[.int .i64 3, .int .i64 2, .int .i64 30, .int .i64 kind, .slice (some ⟨w.heap.size + 1, 0, none⟩) 2 2] 37)).alloc (.cells #[.int .i64 4, .int .i64 3, .int .i64 5, .int .i64 6] 90)) := ((Below.refl _ _).alloc (Nat.le_refl _) _).alloc (by simp) _
  refine bodyPost_ret (v := .agg #[.int .i64 3, .int .i64 2, .int .i64 30, .int .i64 kind, .slice (some ⟨w.heap.size + 1, 0, none⟩) 2 2]) (results_cell_row Try.results63 _ _ w.heap.size 37 #[.int .i64 3, .int .i64 2, .int .i64 30, .int .i64 kind, .slice (some ⟨w.heap.size + 1, 0, none⟩) 2 2] (0, 0) _ rfl ((Below.heap_alloc _ _ _ (by simp)).trans (heap_alloc_new w _)) Try.underlying37 rfl (by kernel_rfl)) rfl ⟨rfl, ?_, hB⟩
  have := pairs_lit (w.alloc (.cells #[.int .i64 3, .int .i64 2, .int .i64 30, .int .i64 kind, .slice (some ⟨w.heap.size + 1, 0, none⟩) 2 2] 37)) [(4, 3), (5, 6)] #[.int .i64 4, .int .i64 3, .int .i64 5, .int .i64 6] 90 2 rfl rfl (by decide)
  rw [World.size_alloc] at this
  exact this
theorem runsIn_zero (w : World) : RunsIn w none 0 0 [] := runsIn_nil w
theorem pl_chk (c : Nat) : chkR false (plotR c 3 1) = 0 := by rfl
theorem pl_over (c : Nat) : overOk (plotR c 3 1) [(0, 20), (1, 10)] = true := by rfl
theorem pl_over2 (c : Nat) : overMax (plotR c 3 1) [(0, 20), (1, 10)] 2 = 24 := by rfl
theorem pl_no (c : Nat) : overOk (plotR c 3 1) [] = false := by rfl
theorem pl_c0 (c d : Nat) : chkQR (fL c 0 6) (plotR d 3 1) = 0 := by rfl
theorem pl_c6 (c d : Nat) : chkQR (fL c 0 6) (plotR d 4 1) = 6 := by rfl
theorem pl_c7 (c d : Nat) : chkQR (fL c 0 6) (plotR d 3 5) = 7 := by rfl
theorem pl_m1 (c : Nat) : meets (plotR c 3 1) [(0, 20), (1, 10)] = true := by rfl
theorem pl_m2 (c : Nat) : meets (plotR c 3 3) [(0, 20), (1, 10)] = false := by rfl
theorem pl_m3 (c : Nat) : meets (plotR c 3 4) [(0, 2), (1, 6)] = true := by rfl
theorem pl_m4 (c : Nat) : meets (plotR c 3 4) [(0, 2), (1, 7)] = false := by rfl
theorem pl_m5 (c : Nat) : meets (plotR c 3 2) [(1, 25)] = true := by rfl
theorem pl_m6 (c : Nat) : meets (plotR c 3 2) [(1, 26)] = false := by rfl
theorem pl_Over (w : World) (c : Nat) (h : RqIn w (plotR c 3 1)) (a : Option Addr) (hb : RunsIn w a 2 2 [(0, 20), (1, 10)]) :
    Calls Try.prog 12 #[.agg #[.int .i64 3, .int .i64 2, .int .i64 30, .int .i64 1, .slice (some ⟨c, 0, none⟩) 2 2], .slice a 2 2] w fun e w' => e = .returned (.tuple #[.int .i64 24, .int .i64 0]) ∧ Below w.heap.size w w' := Over_any w (plotR c 3 1) h a 2 2 _ hb
theorem pl_Over0 (w : World) (c : Nat) (h : RqIn w (plotR c 3 1)) :
    Calls Try.prog 12 #[.agg #[.int .i64 3, .int .i64 2, .int .i64 30, .int .i64 1, .slice (some ⟨c, 0, none⟩) 2 2], .slice none 0 0] w fun e w' => e = .returned (.tuple #[.int .i64 0, .int .i64 1]) ∧ Below w.heap.size w w' := Over_any w (plotR c 3 1) h none 0 0 [] (runsIn_nil w)
theorem pl_Check (w : World) (f c : Nat) (F : FieldIn w f 0 6) (q k v : Int) (hv : chkQR (fL f 0 6) (plotR c q k) = v) (h : RqIn w (plotR c q k)) :
    Calls Try.prog 73 #[.slice (some ⟨f + 4, 0, none⟩) 4 4, .agg #[.int .i64 q, .int .i64 2, .int .i64 30, .int .i64 k, .slice (some ⟨c, 0, none⟩) 2 2]] w fun e w' => e = .returned (.int .i64 v) ∧ Below w.heap.size w w' := by
  have K := CheckRq_any w _ _ _ _ F.qs (plotR c q k) h
  rw [hv] at K
  exact K
theorem pl_Meets (w : World) (c : Nat) (k : Int) (a : Option Addr) (n : Nat) (l : RunL) (v : Bool) (hv : meets (plotR c 3 k) l = v) (h : RqIn w (plotR c 3 k)) (hb : RunsIn w a n n l) :
    Calls Try.prog 14 #[.agg #[.int .i64 3, .int .i64 2, .int .i64 30, .int .i64 k, .slice (some ⟨c, 0, none⟩) 2 2], .slice a n n] w fun e w' => e = .returned (.bool v) ∧ Below w.heap.size w w' := by
  have K := Meets_any w (plotR c 3 k) h a n n l hb
  rw [hv] at K
  exact K

theorem plot_box (w : World) (c : Nat) (q k : Int) : ∀ X : World, Below (w.alloc (.cells #[.int .i64 q, .int .i64 2, .int .i64 30, .int .i64 k, .slice (some ⟨c, 0, none⟩) 2 2] 37)).heap.size (w.alloc (.cells #[.int .i64 q, .int .i64 2, .int .i64 30, .int .i64 k, .slice (some ⟨c, 0, none⟩) 2 2] 37)) X → X.cell? ⟨w.heap.size, 0, none⟩ = some (.int .i64 q) ∧ X.cell? ⟨w.heap.size, 1, none⟩ = some (.int .i64 2) ∧ X.cell? ⟨w.heap.size, 2, none⟩ = some (.int .i64 30) ∧ X.cell? ⟨w.heap.size, 3, none⟩ = some (.int .i64 k) ∧ X.cell? ⟨w.heap.size, 4, none⟩ = some (.slice (some ⟨c, 0, none⟩) 2 2) := box_cells w (plotR c q k)

/-- five cells, one behind the other -/
def Cells5 (X : World) (g : Nat) (a b c d e : Value) : Prop := X.cell? ⟨g, 0, none⟩ = some a ∧ X.cell? ⟨g, 1, none⟩ = some b ∧ X.cell? ⟨g, 2, none⟩ = some c ∧ X.cell? ⟨g, 3, none⟩ = some d ∧ X.cell? ⟨g, 4, none⟩ = some e
theorem Cells5.later {X Y : World} {g : Nat} {a b c d e : Value} (h : Cells5 X g a b c d e) (hb : Below X.heap.size X Y) : Cells5 Y g a b c d e := ⟨cell_later hb h.1, cell_later hb h.2.1, cell_later hb h.2.2.1, cell_later hb h.2.2.2.1, cell_later hb h.2.2.2.2⟩
/-- a region is cut where ways meet again -/
theorem cutH {P : Program} {md : Region.Mode} {ops : Array Oper} {Q : Exit → Act → World → Prop} {S : World → Prop} {fuel : Nat} {listed : Array Bool} {T : Array Value} {df : List Deferred} {w : World} (fuel' : Nat) (listed' : Array Bool) (f : Array Value → Value → Value → Array Value)
    (h1 : (∀ x y w', S w' → wpAnyH P md ops Q S fuel' listed' ⟨f T x y, df⟩ w') → wpAnyH P md ops Q S fuel listed ⟨T, df⟩ w) (h2 : ∀ x y w', S w' → wpAnyH P md ops Q S fuel' listed' ⟨f T x y, df⟩ w') : wpAnyH P md ops Q S fuel listed ⟨T, df⟩ w := h1 h2
theorem castH {P : Program} {md : Region.Mode} {ops : Array Oper} {Q : Exit → Act → World → Prop} {S : World → Prop} {fuel : Nat} {L1 L2 : Array Bool} {T1 T2 : Array Value} {df : List Deferred} {w : World} (hl : L1 = L2) (hT : T1 = T2) (h : wpAnyH P md ops Q S fuel L2 ⟨T2, df⟩ w) : wpAnyH P md ops Q S fuel L1 ⟨T1, df⟩ w := by subst hl; subst hT; exact h
end Go.Proofs.Ytcgchicdmgllaad
