/-
  No cell of these rows narrows 'for every input' (looked for: loops, veiled, ifaces, maps, wideKeys, modest, calm, conditions, laid).
  DERIVED. THE GIVEN ROWS OF THIS SEAT. 6 by the template 'for every input the law returns true; each argument reads behind the call as it read before'; 0 by the template 'total and deterministic' (their statements: YtcgchicdmgllaabTotals.lean).
  GIVEN WITH THE SEED: the statements are not yours to turn. If you find one false, say at which input.
  Laid BY PROGRAM, IN A SANDBOX (cutbox-rows.mjs): the forced cells as the released guide's own fill.sh prints them over the translation 7a0562e4cfcf1f5e… (all of the seat's roots in one cut). By AI agents, Wed Nov 11 2026. No macro, syntax, notation, axiom, sorry.
-/
import Derived.Test.YtcgchicdmgllaabChecked
import GoSem.Claim
import GoSem.ClaimJoined
import GoSem.ClaimMapViews
import Derived.JoinedTies
import Derived.KernelRfl
namespace Go.Proofs.Ytcgchicdmgllaab
/- THE CELL 'sum', in the pinned program and in every row, IS THE sha256 OF THE DUMP (.gsa) THAT YtcgchicdmgllaabProg.lean LOADS. Nothing in Lean hashes anything: it is a label: what it is worth is what the hold of that sum in a sandbox is worth. -/
noncomputable def Try.pinned : Pinned := { name := "ytcgchicdmgllaab", sum := "7a0562e4cfcf1f5ede2e5639ca483adee8d01caa136a983cac070deead1dc877", checked := Try.checked }
namespace Rows
def none {H : Type} : Left H := { results := [], args := [] }

/-- 'acreagelaw.ReqTells': WHATEVER THE INPUT: true; the input reads as it did. -/
def reqTellsSpec : ChangeSpec := { name := "reqTells", fn := fun _ => fun
  | [d1, d2, d3] => { results := [.lit (.bool true)], args := [d1, d2, d3] }
  | _ => none }
def reqTellsRow : OpenClaim := { program := "ytcgchicdmgllaab", sum := "7a0562e4cfcf1f5ede2e5639ca483adee8d01caa136a983cac070deead1dc877", func := "acreage/acreagelaw.ReqTells", spec := "reqTells", unfollowed := true, recurses := true, apart := false }
def ReqTellsSaid : Prop := reqTellsRow.holds Try.pinned (OpenSpec.ofChange reqTellsSpec)

/-- ITS FALSE NEIGHBOUR: 'it returns false'. Refute it at one input. -/
def reqTellsWrong : ChangeSpec := { name := "reqTells", fn := fun _ => fun
  | [d1, d2, d3] => { results := [.lit (.bool false)], args := [d1, d2, d3] }
  | _ => none }
def ReqTellsWrongFalsely : Prop := reqTellsRow.holds Try.pinned (OpenSpec.ofChange reqTellsWrong)

/-- 'acreagelaw.ReqTrue': WHATEVER THE INPUT: true; the input reads as it did. -/
def reqTrueSpec : ChangeSpec := { name := "reqTrue", fn := fun _ => fun
  | [d1, d2] => { results := [.lit (.bool true)], args := [d1, d2] }
  | _ => none }
def reqTrueRow : OpenClaim := { program := "ytcgchicdmgllaab", sum := "7a0562e4cfcf1f5ede2e5639ca483adee8d01caa136a983cac070deead1dc877", func := "acreage/acreagelaw.ReqTrue", spec := "reqTrue", unfollowed := true, recurses := true, apart := false }
def ReqTrueSaid : Prop := reqTrueRow.holds Try.pinned (OpenSpec.ofChange reqTrueSpec)

/-- ITS FALSE NEIGHBOUR: 'it returns false'. Refute it at one input. -/
def reqTrueWrong : ChangeSpec := { name := "reqTrue", fn := fun _ => fun
  | [d1, d2] => { results := [.lit (.bool false)], args := [d1, d2] }
  | _ => none }
def ReqTrueWrongFalsely : Prop := reqTrueRow.holds Try.pinned (OpenSpec.ofChange reqTrueWrong)

/-- 'acreagelaw.LoadTells': WHATEVER THE INPUT: true; the input reads as it did. -/
def loadTellsSpec : ChangeSpec := { name := "loadTells", fn := fun _ => fun
  | [d1, d2, d3] => { results := [.lit (.bool true)], args := [d1, d2, d3] }
  | _ => none }
def loadTellsRow : OpenClaim := { program := "ytcgchicdmgllaab", sum := "7a0562e4cfcf1f5ede2e5639ca483adee8d01caa136a983cac070deead1dc877", func := "acreage/acreagelaw.LoadTells", spec := "loadTells", unfollowed := true, recurses := true, apart := false }
def LoadTellsSaid : Prop := loadTellsRow.holds Try.pinned (OpenSpec.ofChange loadTellsSpec)

/-- ITS FALSE NEIGHBOUR: 'it returns false'. Refute it at one input. -/
def loadTellsWrong : ChangeSpec := { name := "loadTells", fn := fun _ => fun
  | [d1, d2, d3] => { results := [.lit (.bool false)], args := [d1, d2, d3] }
  | _ => none }
def LoadTellsWrongFalsely : Prop := loadTellsRow.holds Try.pinned (OpenSpec.ofChange loadTellsWrong)

/-- 'acreagelaw.LoadTrue': WHATEVER THE INPUT: true; the input reads as it did. -/
def loadTrueSpec : ChangeSpec := { name := "loadTrue", fn := fun _ => fun
  | [d1, d2, d3, d4, d5] => { results := [.lit (.bool true)], args := [d1, d2, d3, d4, d5] }
  | _ => none }
def loadTrueRow : OpenClaim := { program := "ytcgchicdmgllaab", sum := "7a0562e4cfcf1f5ede2e5639ca483adee8d01caa136a983cac070deead1dc877", func := "acreage/acreagelaw.LoadTrue", spec := "loadTrue", unfollowed := true, recurses := true, apart := false }
def LoadTrueSaid : Prop := loadTrueRow.holds Try.pinned (OpenSpec.ofChange loadTrueSpec)

/-- ITS FALSE NEIGHBOUR: 'it returns false'. Refute it at one input. -/
def loadTrueWrong : ChangeSpec := { name := "loadTrue", fn := fun _ => fun
  | [d1, d2, d3, d4, d5] => { results := [.lit (.bool false)], args := [d1, d2, d3, d4, d5] }
  | _ => none }
def LoadTrueWrongFalsely : Prop := loadTrueRow.holds Try.pinned (OpenSpec.ofChange loadTrueWrong)

/-- 'acreagelaw.LoadSum': WHATEVER THE INPUT: true; the input reads as it did. -/
def loadSumSpec : ChangeSpec := { name := "loadSum", fn := fun _ => fun
  | [d1, d2, d3] => { results := [.lit (.bool true)], args := [d1, d2, d3] }
  | _ => none }
def loadSumRow : OpenClaim := { program := "ytcgchicdmgllaab", sum := "7a0562e4cfcf1f5ede2e5639ca483adee8d01caa136a983cac070deead1dc877", func := "acreage/acreagelaw.LoadSum", spec := "loadSum", unfollowed := true, recurses := true, apart := false }
def LoadSumSaid : Prop := loadSumRow.holds Try.pinned (OpenSpec.ofChange loadSumSpec)

/-- ITS FALSE NEIGHBOUR: 'it returns false'. Refute it at one input. -/
def loadSumWrong : ChangeSpec := { name := "loadSum", fn := fun _ => fun
  | [d1, d2, d3] => { results := [.lit (.bool false)], args := [d1, d2, d3] }
  | _ => none }
def LoadSumWrongFalsely : Prop := loadSumRow.holds Try.pinned (OpenSpec.ofChange loadSumWrong)

/-- 'acreagelaw.RoomTells': WHATEVER THE INPUT: true; the input reads as it did. -/
def roomTellsSpec : ChangeSpec := { name := "roomTells", fn := fun _ => fun
  | [d1, d2, d3] => { results := [.lit (.bool true)], args := [d1, d2, d3] }
  | _ => none }
def roomTellsRow : OpenClaim := { program := "ytcgchicdmgllaab", sum := "7a0562e4cfcf1f5ede2e5639ca483adee8d01caa136a983cac070deead1dc877", func := "acreage/acreagelaw.RoomTells", spec := "roomTells", unfollowed := true, recurses := true, apart := false }
def RoomTellsSaid : Prop := roomTellsRow.holds Try.pinned (OpenSpec.ofChange roomTellsSpec)

/-- ITS FALSE NEIGHBOUR: 'it returns false'. Refute it at one input. -/
def roomTellsWrong : ChangeSpec := { name := "roomTells", fn := fun _ => fun
  | [d1, d2, d3] => { results := [.lit (.bool false)], args := [d1, d2, d3] }
  | _ => none }
def RoomTellsWrongFalsely : Prop := roomTellsRow.holds Try.pinned (OpenSpec.ofChange roomTellsWrong)

/- THE SECOND FORM. 'bulk': how many values and letters a reading holds, each counted each time it is reached (what is shared counts as often as it is met; a slice's spare places count too). A statement '..UptoSaid' is the law's where the arguments, and the package variables that the reading takes, are together of bulk at most 1048576: NARROWER than '..Said'. Prove '..Said' where nothing that the law and all that it calls make is longer than what came in: it says more and counts as full. Else prove '..UptoSaid'. A law counts once. -/
mutual
def uptoBulk {H : Type} : DataW H → Nat
  | .lit (.string bytes) => bytes.length + 1
  | .lit _ => 1
  | .nil => 1
  | .ptr d => uptoBulk d + 1
  | .slice elems spare => uptoBulkAll elems + uptoBulkAll spare + 1
  | .agg parts => uptoBulkAll parts + 1
  | .iface _ d => uptoBulk d + 1
  | .map entries => uptoBulkEntries entries + 1
  | .held _ => 1
def uptoBulkAll {H : Type} : List (DataW H) → Nat
  | [] => 0
  | d :: r => uptoBulk d + uptoBulkAll r
def uptoBulkEntries {H : Type} : List (Lit × DataW H) → Nat
  | [] => 0
  | x :: r => uptoBulkEntry x + uptoBulkEntries r
def uptoBulkEntry {H : Type} : Lit × DataW H → Nat
  | (.string bytes, d) => bytes.length + uptoBulk d + 1
  | (_, d) => uptoBulk d + 1
 end
def uptoSmall : (H : Type) → List (DataW H) → Bool := fun _ ds => decide (uptoBulkAll ds ≤ 1048576)
def OpenSpec.upto (s : _root_.Go.ChangeSpec) : _root_.Go.OpenSpec := { _root_.Go.OpenSpec.ofChange s with cond := some uptoSmall }

/-- 'acreagelaw.ReqTells', WHERE WHAT IT READS IS OF BULK AT MOST 1048576: true; the input reads as it did. -/
def reqTellsUptoRow : OpenClaim := { program := "ytcgchicdmgllaab", sum := "7a0562e4cfcf1f5ede2e5639ca483adee8d01caa136a983cac070deead1dc877", func := "acreage/acreagelaw.ReqTells", spec := "reqTells", unfollowed := true, recurses := true, apart := false, narrowed := true }
def ReqTellsUptoSaid : Prop := reqTellsUptoRow.holds Try.pinned (OpenSpec.upto reqTellsSpec)

/-- 'acreagelaw.ReqTrue', WHERE WHAT IT READS IS OF BULK AT MOST 1048576: true; the input reads as it did. -/
def reqTrueUptoRow : OpenClaim := { program := "ytcgchicdmgllaab", sum := "7a0562e4cfcf1f5ede2e5639ca483adee8d01caa136a983cac070deead1dc877", func := "acreage/acreagelaw.ReqTrue", spec := "reqTrue", unfollowed := true, recurses := true, apart := false, narrowed := true }
def ReqTrueUptoSaid : Prop := reqTrueUptoRow.holds Try.pinned (OpenSpec.upto reqTrueSpec)

/-- 'acreagelaw.LoadTells', WHERE WHAT IT READS IS OF BULK AT MOST 1048576: true; the input reads as it did. -/
def loadTellsUptoRow : OpenClaim := { program := "ytcgchicdmgllaab", sum := "7a0562e4cfcf1f5ede2e5639ca483adee8d01caa136a983cac070deead1dc877", func := "acreage/acreagelaw.LoadTells", spec := "loadTells", unfollowed := true, recurses := true, apart := false, narrowed := true }
def LoadTellsUptoSaid : Prop := loadTellsUptoRow.holds Try.pinned (OpenSpec.upto loadTellsSpec)

/-- 'acreagelaw.LoadTrue', WHERE WHAT IT READS IS OF BULK AT MOST 1048576: true; the input reads as it did. -/
def loadTrueUptoRow : OpenClaim := { program := "ytcgchicdmgllaab", sum := "7a0562e4cfcf1f5ede2e5639ca483adee8d01caa136a983cac070deead1dc877", func := "acreage/acreagelaw.LoadTrue", spec := "loadTrue", unfollowed := true, recurses := true, apart := false, narrowed := true }
def LoadTrueUptoSaid : Prop := loadTrueUptoRow.holds Try.pinned (OpenSpec.upto loadTrueSpec)

/-- 'acreagelaw.LoadSum', WHERE WHAT IT READS IS OF BULK AT MOST 1048576: true; the input reads as it did. -/
def loadSumUptoRow : OpenClaim := { program := "ytcgchicdmgllaab", sum := "7a0562e4cfcf1f5ede2e5639ca483adee8d01caa136a983cac070deead1dc877", func := "acreage/acreagelaw.LoadSum", spec := "loadSum", unfollowed := true, recurses := true, apart := false, narrowed := true }
def LoadSumUptoSaid : Prop := loadSumUptoRow.holds Try.pinned (OpenSpec.upto loadSumSpec)

/-- 'acreagelaw.RoomTells', WHERE WHAT IT READS IS OF BULK AT MOST 1048576: true; the input reads as it did. -/
def roomTellsUptoRow : OpenClaim := { program := "ytcgchicdmgllaab", sum := "7a0562e4cfcf1f5ede2e5639ca483adee8d01caa136a983cac070deead1dc877", func := "acreage/acreagelaw.RoomTells", spec := "roomTells", unfollowed := true, recurses := true, apart := false, narrowed := true }
def RoomTellsUptoSaid : Prop := roomTellsUptoRow.holds Try.pinned (OpenSpec.upto roomTellsSpec)

end Rows
end Go.Proofs.Ytcgchicdmgllaab
