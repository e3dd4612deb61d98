/- What the listed variables of the library hold, out of the row's own words; a world for the witness. -/
import Derived.Test.YtckpdfkobdgjeaaDoorKTextA
import Derived.Test.YtckpdfkobdgjeaaDoorKFrameQ
import Derived.Test.YtckpdfkobdgjeaaDoorTie
import Derived.Test.YtckpdfkobdgjeaaDoorCards
import Derived.MakeChecks
import Derived.LaidLaws
import Derived.LaidMore
import Derived.Deep.DeepHandedRow
import Derived.Deep.DeepWitnessRowRef
import Derived.Lib.LaidU8
import Derived.Shelf.Vars
namespace Go.Proofs.YtckpdfkobdgjeaaDoor
open Go.ChangeShapes Go.WideShapes Go.ChangeAt Go.RowKit
theorem whiteX : WhiteExtra Tryd.prog Tryd.lays157_ren := {
  n6 := by kernel_rfl
  y6 := by kernel_rfl
  c3 := by kernel_rfl
  c49 := by kernel_rfl
  c193 := by kernel_rfl
  c194 := by kernel_rfl
  c196 := by kernel_rfl
  c198 := by kernel_rfl }
theorem err_of {W : World} {n : String} {g : Nat} {tn : String} {d : DataW Unit} (hg : Tryd.prog.globalNamed n = some g) (hty : (Tryd.prog.globals[g]?).map (·.type) = some 43) (h : Lib.VarReads Tryd.prog W n (.iface tn d)) :
    ∃ ev, W.cell? ⟨g, 0, none⟩ = some ev ∧ (ev = .nilIface ∨ ∃ te pe, ev = .iface te pe) := by
  obtain ⟨g', t', cs, fuel, p, hg', ht', hv, hd⟩ := h
  obtain rfl := Option.some.inj (hg.symm.trans hg')
  obtain rfl := Option.some.inj (hty.symm.trans ht')
  obtain ⟨_, u, v, hc, _, _⟩ := iface_of_trod Tryd.underlying43 hd
  have := World.var?_cell hg' hv 0
  rw [Array.eq_one_of_toList hc] at this
  exact ⟨.iface u v, by simpa using this, .inr ⟨u, v, rfl⟩⟩
theorem tab_of {W : World} (h : Lib.VarReads Tryd.prog W "strings.asciiSpace" (Lib.tabData .u8 Lib.asciiSpaceTab)) : Lib.TabIs Tryd.prog W "strings.asciiSpace" .u8 Lib.asciiSpaceTab := by
  obtain ⟨g', t', cs, fuel, p, hg', ht', hv, hd⟩ := h
  obtain rfl := Option.some.inj ((show Tryd.prog.globalNamed "strings.asciiSpace" = some 0 by kernel_rfl).symm.trans hg')
  obtain rfl := Option.some.inj ((show (Tryd.prog.globals[0]?).map (·.type) = some 79 by kernel_rfl).symm.trans ht')
  unfold Lib.TabIs
  rw [hv, ← Lib.cells_of_tab Tryd.underlying79 Tryd.underlying5 (by kernel_rfl) (by kernel_rfl) hd]
theorem libOk_of {W : World} (hL : laidMetH Tryd.prog Rows.textBackRow.laid W) (hsh : W.ShapedOpen Tryd.prog) : LibOk W := by
  rw [MakeChecks.laidMetH_plain _ _ _ (by kernel_rfl)] at hL
  obtain ⟨ps, hV, _⟩ := hL
  have r3 : Lib.VarReads Tryd.prog W "strconv.ErrRange" Rows.laid_strconv_ErrRange := Lib.LaidVars_reads hV _ _ (.tail _ (.tail _ (.tail _ (.head _))))
  have r4 : Lib.VarReads Tryd.prog W "strconv.ErrSyntax" Rows.laid_strconv_ErrSyntax := Lib.LaidVars_reads hV _ _ (.tail _ (.tail _ (.tail _ (.tail _ (.head _)))))
  have r5 : Lib.VarReads Tryd.prog W "unicode.White_Space" Rows.laid_unicode_White_Space := Lib.LaidVars_reads hV _ _ (.tail _ (.tail _ (.tail _ (.tail _ (.tail _ (.head _))))))
  have r6 : Lib.VarReads Tryd.prog W "strings.asciiSpace" Rows.laid_strings_asciiSpace := Lib.LaidVars_reads hV _ _ (.tail _ (.tail _ (.tail _ (.tail _ (.tail _ (.tail _ (.head _)))))))
  refine ⟨?_, err_of (by kernel_rfl) (by kernel_rfl) r4, err_of (by kernel_rfl) (by kernel_rfl) r3, tab_of ?_, ?_⟩
  · exact cell_of_shapedOpen_int (t := 3) (zero := #[.int .i64 0]) (g := 3) hsh (of_decide_eq_true (by kernel_rfl)) (by kernel_rfl) rfl (by kernel_rfl) (by kernel_rfl) Tryd.underlying3
  · rw [show (Lib.tabData .u8 Lib.asciiSpaceTab : DataW Unit) = Rows.laid_strings_asciiSpace by kernel_rfl]
    exact r6
  · refine whiteTab_of_reads (ρ := Tryd.lays157_ren) { Tryd.lays157 with } whiteX ?_
    rw [show Lib.whiteData = Rows.laid_unicode_White_Space by kernel_rfl]
    exact r5
theorem laid_met (os : Os) (args : Array Value) : laidMet Tryd.prog Rows.textBackRow.laid ((World.doorLaid Tryd.prog 4000 os).forCall (fun _ _ => 0) ⟨#[], args, []⟩).memory :=
  laidMet_of_run' 16 (by kernel_rfl) (by kernel_rfl)
end Go.Proofs.YtckpdfkobdgjeaaDoor
