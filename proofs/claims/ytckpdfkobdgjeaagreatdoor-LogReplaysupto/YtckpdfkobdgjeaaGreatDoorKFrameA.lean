/- Acts that came in as arguments: what a reading of them says of memory, and of their size; what the listed variable holds; a world for the witness. -/
import Derived.Test.YtckpdfkobdgjeaaGreatDoorKAll8
import Derived.Test.YtckpdfkobdgjeaaGreatDoorKAll4
import Derived.Test.YtckpdfkobdgjeaaGreatDoorKAll10
import Derived.Test.YtckpdfkobdgjeaaGreatDoorTie
import Derived.Test.YtckpdfkobdgjeaaGreatDoorCards
import Derived.MakeChecks
import Derived.LaidLaws
import Derived.LaidMore
import Derived.Deep.DeepHandedRow
import Derived.Deep.DeepWitnessRowRef
namespace Go.Proofs.YtckpdfkobdgjeaaGreatDoor
open Go.ChangeShapes Go.WideShapes Go.ChangeAt Go.RowKit
theorem trod_big4 {P : Program} {H : Type} {enc : TypeId × Value → H} {w : World} {base : Nat} {spare : Nat → Bool} {held : Bool} {t : TypeId} {f0 f1 f2 f3 : Field} {fuel : Nat} {cs : List Value} {x : DataW H × List MemPlace} (ht : P.underlying t = some (.struct #[f0, f1, f2, f3])) (h : DataW.trod enc P w base spare held fuel t cs = some x) :
    ∃ (y0 y1 y2 y3 : DataW H × List MemPlace) (n : Nat), x.1 = .agg [y0.1, y1.1, y2.1, y3.1] ∧ cs.length = P.cellsOf t ∧ DataW.trod enc P w base spare held n f0.type ((cs.drop f0.offset).take (P.cellsOf f0.type)) = some y0 ∧
      DataW.trod enc P w base spare held n f1.type ((cs.drop f1.offset).take (P.cellsOf f1.type)) = some y1 ∧ DataW.trod enc P w base spare held n f2.type ((cs.drop f2.offset).take (P.cellsOf f2.type)) = some y2 ∧
      DataW.trod enc P w base spare held n f3.type ((cs.drop f3.offset).take (P.cellsOf f3.type)) = some y3 := by
  obtain ⟨xs, n, _, rfl, hl, hlen, hf⟩ := DataW.trod_struct ht h
  match xs, hlen with
  | [y0, y1, y2, y3], _ => exact ⟨y0, y1, y2, y3, n, rfl, hl, by simpa using hf 0 f0 rfl, by simpa using hf 1 f1 rfl, by simpa using hf 2 f2 rfl, by simpa using hf 3 f3 rfl⟩
theorem trod_big5 {P : Program} {H : Type} {enc : TypeId × Value → H} {w : World} {base : Nat} {spare : Nat → Bool} {held : Bool} {t : TypeId} {f0 f1 f2 f3 f4 : Field} {fuel : Nat} {cs : List Value} {x : DataW H × List MemPlace} (ht : P.underlying t = some (.struct #[f0, f1, f2, f3, f4])) (h : DataW.trod enc P w base spare held fuel t cs = some x) :
    ∃ (y0 y1 y2 y3 y4 : DataW H × List MemPlace) (n : Nat), x.1 = .agg [y0.1, y1.1, y2.1, y3.1, y4.1] ∧ DataW.trod enc P w base spare held n f4.type ((cs.drop f4.offset).take (P.cellsOf f4.type)) = some y4 := by
  obtain ⟨xs, n, _, rfl, hl, hlen, hf⟩ := DataW.trod_struct ht h
  match xs, hlen with
  | [y0, y1, y2, y3, y4], _ => exact ⟨y0, y1, y2, y3, y4, n, rfl, by simpa using hf 4 f4 rfl⟩
theorem eight_parts {l : List Value} (h : l.length = 8) : ∃ a b c d e f g i, l = [a, b, c, d, e, f, g, i] := by
  match l, h with
  | [a, b, c, d, e, f, g, i], _ => exact ⟨a, b, c, d, e, f, g, i, rfl⟩
theorem rq_open_big {H : Type} {enc : TypeId × Value → H} {W : World} {base : Nat} {spare : Nat → Bool} {held : Bool} {fuel : Nat} {cs : List Value} {x : DataW H × List MemPlace}
    (hf : DataW.trod enc Tryz.prog W base spare held fuel 24 cs = some x) : ∃ r : Rq, cs = [.int .i64 r.queue, .int .i64 r.fr, .int .i64 r.un, .int .i64 r.kind, .slice r.pa r.pn r.pc] ∧ RqIn W r ∧ r.pn ≤ Rows.uptoBulk x.1 := by
  obtain ⟨r, hr, hR⟩ := rq_open hf
  refine ⟨r, hr, hR, ?_⟩
  obtain ⟨y0, y1, y2, y3, y4, n, hx, h4⟩ := trod_big5 Tryz.underlying24 hf
  have hce : Tryz.prog.cellsOf 22 = 1 := by kernel_rfl
  rw [hr] at h4
  simp only [hce, List.drop_succ_cons, List.drop_zero, List.take_succ_cons, List.take_zero] at h4
  have h5 := bulk_slice (d := y4.1) (p := y4.2) Tryz.underlying22 ⟨n, by simpa [Value.cells] using h4⟩
  rw [hx]
  simp only [Rows.uptoBulk, Rows.uptoBulkAll]
  omega
theorem ac_open {H : Type} {enc : TypeId × Value → H} {W : World} {base : Nat} {spare : Nat → Bool} {held : Bool} {fuel : Nat} {cs : List Value} {x : DataW H × List MemPlace}
    (hf : DataW.trod enc Tryz.prog W base spare held fuel 27 cs = some x) : ∃ r : Ac, cs = acCells r ∧ AcIn W r ∧ r.rq.pn ≤ Rows.uptoBulk x.1 ∧ r.cn ≤ Rows.uptoBulk x.1 := by
  obtain ⟨y0, y1, y2, y3, n, hx, hlc, g0, g1, g2, g3⟩ := trod_big4 Tryz.underlying27 hf
  have hce : Tryz.prog.cellsOf 27 = 8 := by kernel_rfl
  obtain ⟨v0, v1, v2, v3, v4, v5, v6, v7, rfl⟩ := eight_parts (hlc.trans hce)
  have c3 : Tryz.prog.cellsOf 3 = 1 := by kernel_rfl
  have cr : Tryz.prog.cellsOf 24 = 5 := by kernel_rfl
  have cc : Tryz.prog.cellsOf 25 = 1 := by kernel_rfl
  simp only [c3, cr, cc, List.drop_zero, List.drop_succ_cons, List.take_succ_cons, List.take_zero] at g0 g1 g2 g3
  obtain ⟨a0, e0, _, _⟩ := DataW.trod_int Tryz.underlying3 g0
  obtain ⟨a1, e1, _, _⟩ := DataW.trod_int Tryz.underlying3 g1
  obtain ⟨r, er, hR, hp⟩ := rq_open_big g2
  obtain ⟨ca, cn, cp, cl, e3, hC⟩ := runs_open_any g3
  have k3 := g3
  rw [e3] at k3
  have hc := bulk_slice (d := y3.1) (p := y3.2) Tryz.underlying25 ⟨n, by simpa [Value.cells] using k3⟩
  simp at e0 e1 e3 er
  obtain ⟨q1, q2, q3, q4, q5⟩ := er
  subst e0 e1 e3 q1 q2 q3 q4 q5
  refine ⟨⟨a0, a1, r, ca, cn, cp, cl⟩, rfl, ⟨hR, hC⟩, ?_, ?_⟩
  · rw [hx]; simp only [Rows.uptoBulk, Rows.uptoBulkAll]; omega
  · rw [hx]; simp only [Rows.uptoBulk, Rows.uptoBulkAll]; omega
set_option maxRecDepth 100000 in
theorem ac_arg {H : Type} {enc : TypeId × Value → H} {W : World} {base : Nat} {spare : Nat → Bool} {held : Bool} {b0 : Nat} {v : Value} {d : DataW H} {p : List MemPlace}
    (hv : Value.okWide Tryz.prog W .any b0 27 v) (h : DataW.Trod enc Tryz.prog W base spare held 27 v d p) :
    ∃ r : Ac, v = .agg #[.int .i64 r.kind, .int .i64 r.n, .int .i64 r.rq.queue, .int .i64 r.rq.fr, .int .i64 r.rq.un, .int .i64 r.rq.kind, .slice r.rq.pa r.rq.pn r.rq.pc, .slice r.ca r.cn r.cc] ∧ AcIn W r ∧ r.rq.pn ≤ Rows.uptoBulk d ∧ r.cn ≤ Rows.uptoBulk d := by
  obtain ⟨cs, rfl, hsz⟩ := okWide_struct Tryz.underlying27 hv
  obtain ⟨fuel, hf⟩ := h
  obtain ⟨r, hr, hR, h1, h2⟩ := ac_open hf
  refine ⟨r, ?_, hR, h1, h2⟩
  have : cs.toList = acCells r := by simpa [Value.cells] using hr
  rw [← Array.toList_inj.1 (this.trans rfl : cs.toList = #[Value.int .i64 r.kind, .int .i64 r.n, .int .i64 r.rq.queue, .int .i64 r.rq.fr, .int .i64 r.rq.un, .int .i64 r.rq.kind, .slice r.rq.pa r.rq.pn r.rq.pc, .slice r.ca r.cn r.cc].toList)]
theorem gNone : Tryz.prog.globalNamed "acreage/log.errNone" = some 0 := by kernel_rfl
theorem gNoneType : (Tryz.prog.globals[0]?).map (·.type) = some 165 := by kernel_rfl
theorem told_of {W : World} (h : laidMetH Tryz.prog [("acreage/log.errNone", Rows.laid_acreage_log_errNone)] W) : ∃ v, Told W v := by
  rw [MakeChecks.laidMetH_plain _ _ _ (by kernel_rfl)] at h
  obtain ⟨ps, ⟨g0, t0, cs0, f0, p0, q0, hg0, ht0, hv0, hd0, _, _⟩, _, _⟩ := h
  obtain rfl := Option.some.inj (gNone.symm.trans hg0)
  obtain rfl := Option.some.inj (gNoneType.symm.trans ht0)
  obtain ⟨_, u, v, hc, _, _⟩ := iface_of_trod Tryz.underlying165 hd0
  have := World.var?_cell hg0 hv0 0
  rw [Array.eq_one_of_toList hc] at this
  exact ⟨.iface u v, by simpa using this, u, v, rfl⟩
theorem laid_met (os : Os) (args : Array Value) : laidMet Tryz.prog [("acreage/log.errNone", Rows.laid_acreage_log_errNone)] ((World.doorLaid Tryz.prog 400 os).forCall (fun _ _ => 0) ⟨#[], args, []⟩).memory :=
  laidMet_of_run' 8 (by kernel_rfl) (by kernel_rfl)
end Go.Proofs.YtckpdfkobdgjeaaGreatDoor
