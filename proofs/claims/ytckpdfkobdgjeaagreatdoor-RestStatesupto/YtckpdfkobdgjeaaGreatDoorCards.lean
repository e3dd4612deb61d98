/-
  DERIVED. GIVEN WITH THE SEED: THE CARDS: each row of YtckpdfkobdgjeaaGreatDoorRows.lean that lists a variable, with what it lists TIED to the program's text (the seventh form; the later family's looks); each row that meets fmt, with fmt's text TOLD by the authors' own Lean function (tested against real Go, not proved from fmt's source: count such statements apart). THE CARD IS WHAT COUNTS. Prove the row's statement (the work); the ties are given (YtckpdfkobdgjeaaGreatDoorTie.lean); close each card by the builder's one call (the guide's Derived/Test/ToyasCard.lean, 'card_holds'). Laid BY PROGRAM, IN A SANDBOX (cutbox-door.mjs). By AI agents, Wed Nov 11 2026. No macro, syntax, notation, axiom, sorry.
-/
import Derived.Test.YtckpdfkobdgjeaaGreatDoorRows
import GoSem.ClaimSeven
namespace Go.Proofs.YtckpdfkobdgjeaaGreatDoor
namespace Rows

/-- THE TIED CARD OF 'acreagelaw.LogReplays'. -/
def logReplaysCard : Claim7 := { stood := { row := logReplaysRow, standIns := [], harness := (true, "a0cd7e8a02e7221763dbf3c4288c9d8f40165494a68eacb651f6e001f2e6ce51"), looks := true }, kinds := [], alts := [], laidByText := true, laidKinds := [.sentinel], laidTests := true, laidLooks := .later }
def LogReplaysCardSaid : Prop := Claim7.holds Tryz.pinned (.plain (OpenSpec.ofChange logReplaysSpec)) logReplaysCard

/-- THE TIED CARD OF 'acreagelaw.LogRecovers'. -/
def logRecoversCard : Claim7 := { stood := { row := logRecoversRow, standIns := [], harness := (true, "a0cd7e8a02e7221763dbf3c4288c9d8f40165494a68eacb651f6e001f2e6ce51"), looks := true }, kinds := [], alts := [], laidByText := true, laidKinds := [.sentinel], laidTests := true, laidLooks := .later }
def LogRecoversCardSaid : Prop := Claim7.holds Tryz.pinned (.plain (OpenSpec.ofChange logRecoversSpec)) logRecoversCard

/-- THE TIED CARD OF 'acreagelaw.LogKept'. -/
def logKeptCard : Claim7 := { stood := { row := logKeptRow, standIns := [], harness := (true, "a0cd7e8a02e7221763dbf3c4288c9d8f40165494a68eacb651f6e001f2e6ce51"), looks := true }, kinds := [], alts := [], laidByText := true, laidKinds := [.sentinel], laidTests := true, laidLooks := .later }
def LogKeptCardSaid : Prop := Claim7.holds Tryz.pinned (.plain (OpenSpec.ofChange logKeptSpec)) logKeptCard

/-- THE TIED CARD OF 'acreagelaw.LogMore'. -/
def logMoreCard : Claim7 := { stood := { row := logMoreRow, standIns := [], harness := (true, "a0cd7e8a02e7221763dbf3c4288c9d8f40165494a68eacb651f6e001f2e6ce51"), looks := true }, kinds := [], alts := [], laidByText := true, laidKinds := [.sentinel], laidTests := true, laidLooks := .later }
def LogMoreCardSaid : Prop := Claim7.holds Tryz.pinned (.plain (OpenSpec.ofChange logMoreSpec)) logMoreCard

/-- THE TIED CARD OF 'acreagelaw.LogRight'. -/
def logRightCard : Claim7 := { stood := { row := logRightRow, standIns := [], harness := (true, "a0cd7e8a02e7221763dbf3c4288c9d8f40165494a68eacb651f6e001f2e6ce51"), looks := true }, kinds := [], alts := [], laidByText := true, laidKinds := [.sentinel], laidTests := true, laidLooks := .later }
def LogRightCardSaid : Prop := Claim7.holds Tryz.pinned (.plain (OpenSpec.ofChange logRightSpec)) logRightCard

/-- THE TIED CARD OF 'acreagelaw.RestStates'. -/
def restStatesCard : Claim7 := { stood := { row := restStatesRow, standIns := [], harness := (true, "a0cd7e8a02e7221763dbf3c4288c9d8f40165494a68eacb651f6e001f2e6ce51"), looks := true }, kinds := [], alts := [], laidByText := true, laidKinds := [.sentinel], laidTests := true, laidLooks := .later }
def RestStatesCardSaid : Prop := Claim7.holds Tryz.pinned (.plain (OpenSpec.ofChange restStatesSpec)) restStatesCard

/-- THE SECOND FORM's CARD OF 'acreagelaw.LogReplays'. -/
def logReplaysUptoCard : Claim7 := { stood := { row := logReplaysUptoRow, standIns := [], harness := (true, "a0cd7e8a02e7221763dbf3c4288c9d8f40165494a68eacb651f6e001f2e6ce51"), looks := true }, kinds := [], alts := [], laidByText := true, laidKinds := [.sentinel], laidTests := true, laidLooks := .later }
def LogReplaysUptoCardSaid : Prop := Claim7.holds Tryz.pinned (.plain (OpenSpec.upto logReplaysSpec)) logReplaysUptoCard

/-- THE SECOND FORM's CARD OF 'acreagelaw.LogRecovers'. -/
def logRecoversUptoCard : Claim7 := { stood := { row := logRecoversUptoRow, standIns := [], harness := (true, "a0cd7e8a02e7221763dbf3c4288c9d8f40165494a68eacb651f6e001f2e6ce51"), looks := true }, kinds := [], alts := [], laidByText := true, laidKinds := [.sentinel], laidTests := true, laidLooks := .later }
def LogRecoversUptoCardSaid : Prop := Claim7.holds Tryz.pinned (.plain (OpenSpec.upto logRecoversSpec)) logRecoversUptoCard

/-- THE SECOND FORM's CARD OF 'acreagelaw.LogKept'. -/
def logKeptUptoCard : Claim7 := { stood := { row := logKeptUptoRow, standIns := [], harness := (true, "a0cd7e8a02e7221763dbf3c4288c9d8f40165494a68eacb651f6e001f2e6ce51"), looks := true }, kinds := [], alts := [], laidByText := true, laidKinds := [.sentinel], laidTests := true, laidLooks := .later }
def LogKeptUptoCardSaid : Prop := Claim7.holds Tryz.pinned (.plain (OpenSpec.upto logKeptSpec)) logKeptUptoCard

/-- THE SECOND FORM's CARD OF 'acreagelaw.LogMore'. -/
def logMoreUptoCard : Claim7 := { stood := { row := logMoreUptoRow, standIns := [], harness := (true, "a0cd7e8a02e7221763dbf3c4288c9d8f40165494a68eacb651f6e001f2e6ce51"), looks := true }, kinds := [], alts := [], laidByText := true, laidKinds := [.sentinel], laidTests := true, laidLooks := .later }
def LogMoreUptoCardSaid : Prop := Claim7.holds Tryz.pinned (.plain (OpenSpec.upto logMoreSpec)) logMoreUptoCard

/-- THE SECOND FORM's CARD OF 'acreagelaw.LogRight'. -/
def logRightUptoCard : Claim7 := { stood := { row := logRightUptoRow, standIns := [], harness := (true, "a0cd7e8a02e7221763dbf3c4288c9d8f40165494a68eacb651f6e001f2e6ce51"), looks := true }, kinds := [], alts := [], laidByText := true, laidKinds := [.sentinel], laidTests := true, laidLooks := .later }
def LogRightUptoCardSaid : Prop := Claim7.holds Tryz.pinned (.plain (OpenSpec.upto logRightSpec)) logRightUptoCard

/-- THE SECOND FORM's CARD OF 'acreagelaw.RestStates'. -/
def restStatesUptoCard : Claim7 := { stood := { row := restStatesUptoRow, standIns := [], harness := (true, "a0cd7e8a02e7221763dbf3c4288c9d8f40165494a68eacb651f6e001f2e6ce51"), looks := true }, kinds := [], alts := [], laidByText := true, laidKinds := [.sentinel], laidTests := true, laidLooks := .later }
def RestStatesUptoCardSaid : Prop := Claim7.holds Tryz.pinned (.plain (OpenSpec.upto restStatesSpec)) restStatesUptoCard
end Rows
end Go.Proofs.YtckpdfkobdgjeaaGreatDoor
