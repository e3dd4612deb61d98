/-
  No cell of these rows narrows 'for every input' (looked for: loops, veiled, ifaces, maps, wideKeys, modest, calm, conditions, laid).
  DERIVED. THE GIVEN ROWS OF THIS SEAT. 5 by the template 'for every input the law returns true; each argument reads behind the call as it read before'; 0 by the template 'total and deterministic' (their statements: YtecibbokbonmcaeGreatTotals.lean).
  GIVEN WITH THE SEED: the statements are not yours to turn. If you find one false, say at which input.
  Laid BY PROGRAM, IN A SANDBOX (cutbox-rows.mjs): the forced cells as the released guide's own fill.sh prints them over the translation 2d2ca102876e8731… (all of the seat's roots in one cut). By AI agents, Wed Nov 11 2026. No macro, syntax, notation, axiom, sorry.
-/
import Derived.Test.YtecibbokbonmcaeGreatChecked
import GoSem.Claim
import GoSem.ClaimJoined
import GoSem.ClaimMapViews
import Derived.JoinedTies
import Derived.KernelRfl
namespace Go.Proofs.YtecibbokbonmcaeGreat
/- THE CELL 'sum', in the pinned program and in every row, IS THE sha256 OF THE DUMP (.gsa) THAT YtecibbokbonmcaeGreatProg.lean LOADS. Nothing in Lean hashes anything: it is a label: what it is worth is what the hold of that sum in a sandbox is worth. -/
noncomputable def Tryz.pinned : Pinned := { name := "ytecibbokbonmcaegreat", sum := "2d2ca102876e87315b2cc15d5caaff17cb52d5422c47fd3672ace4f29f27cb10", checked := Tryz.checked }
namespace Rows
def none {H : Type} : Left H := { results := [], args := [] }

/-- 'acreagelaw.CutTells': WHATEVER THE INPUT: true; the input reads as it did. -/
def cutTellsSpec : ChangeSpec := { name := "cutTells", fn := fun _ => fun
  | [d1, d2, d3] => { results := [.lit (.bool true)], args := [d1, d2, d3] }
  | _ => none }
def cutTellsRow : OpenClaim := { program := "ytecibbokbonmcaegreat", sum := "2d2ca102876e87315b2cc15d5caaff17cb52d5422c47fd3672ace4f29f27cb10", func := "acreage/acreagelaw.CutTells", spec := "cutTells", inPlace := ["slices.overlaps[acreage/api.Book]"], unfollowed := true, recurses := true, apart := false }
def CutTellsSaid : Prop := cutTellsRow.holds Tryz.pinned (OpenSpec.ofChange cutTellsSpec)

/-- ITS FALSE NEIGHBOUR: 'it returns false'. Refute it at one input. -/
def cutTellsWrong : ChangeSpec := { name := "cutTells", fn := fun _ => fun
  | [d1, d2, d3] => { results := [.lit (.bool false)], args := [d1, d2, d3] }
  | _ => none }
def CutTellsWrongFalsely : Prop := cutTellsRow.holds Tryz.pinned (OpenSpec.ofChange cutTellsWrong)

/-- 'acreagelaw.CutTrue': WHATEVER THE INPUT: true; the input reads as it did. -/
def cutTrueSpec : ChangeSpec := { name := "cutTrue", fn := fun _ => fun
  | [d1, d2, d3] => { results := [.lit (.bool true)], args := [d1, d2, d3] }
  | _ => none }
def cutTrueRow : OpenClaim := { program := "ytecibbokbonmcaegreat", sum := "2d2ca102876e87315b2cc15d5caaff17cb52d5422c47fd3672ace4f29f27cb10", func := "acreage/acreagelaw.CutTrue", spec := "cutTrue", inPlace := ["slices.overlaps[acreage/api.Book]"], unfollowed := true, recurses := true, apart := false }
def CutTrueSaid : Prop := cutTrueRow.holds Tryz.pinned (OpenSpec.ofChange cutTrueSpec)

/-- ITS FALSE NEIGHBOUR: 'it returns false'. Refute it at one input. -/
def cutTrueWrong : ChangeSpec := { name := "cutTrue", fn := fun _ => fun
  | [d1, d2, d3] => { results := [.lit (.bool false)], args := [d1, d2, d3] }
  | _ => none }
def CutTrueWrongFalsely : Prop := cutTrueRow.holds Tryz.pinned (OpenSpec.ofChange cutTrueWrong)

/-- 'acreagelaw.CutNone': WHATEVER THE INPUT: true; the input reads as it did. -/
def cutNoneSpec : ChangeSpec := { name := "cutNone", fn := fun _ => fun
  | [d1, d2, d3] => { results := [.lit (.bool true)], args := [d1, d2, d3] }
  | _ => none }
def cutNoneRow : OpenClaim := { program := "ytecibbokbonmcaegreat", sum := "2d2ca102876e87315b2cc15d5caaff17cb52d5422c47fd3672ace4f29f27cb10", func := "acreage/acreagelaw.CutNone", spec := "cutNone", inPlace := ["slices.overlaps[acreage/api.Book]"], unfollowed := true, recurses := true, apart := false }
def CutNoneSaid : Prop := cutNoneRow.holds Tryz.pinned (OpenSpec.ofChange cutNoneSpec)

/-- ITS FALSE NEIGHBOUR: 'it returns false'. Refute it at one input. -/
def cutNoneWrong : ChangeSpec := { name := "cutNone", fn := fun _ => fun
  | [d1, d2, d3] => { results := [.lit (.bool false)], args := [d1, d2, d3] }
  | _ => none }
def CutNoneWrongFalsely : Prop := cutNoneRow.holds Tryz.pinned (OpenSpec.ofChange cutNoneWrong)

/-- 'acreagelaw.CutFair': WHATEVER THE INPUT: true; the input reads as it did. -/
def cutFairSpec : ChangeSpec := { name := "cutFair", fn := fun _ => fun
  | [d1, d2, d3] => { results := [.lit (.bool true)], args := [d1, d2, d3] }
  | _ => none }
def cutFairRow : OpenClaim := { program := "ytecibbokbonmcaegreat", sum := "2d2ca102876e87315b2cc15d5caaff17cb52d5422c47fd3672ace4f29f27cb10", func := "acreage/acreagelaw.CutFair", spec := "cutFair", inPlace := ["slices.overlaps[acreage/api.Book]"], unfollowed := true, recurses := true, apart := false }
def CutFairSaid : Prop := cutFairRow.holds Tryz.pinned (OpenSpec.ofChange cutFairSpec)

/-- ITS FALSE NEIGHBOUR: 'it returns false'. Refute it at one input. -/
def cutFairWrong : ChangeSpec := { name := "cutFair", fn := fun _ => fun
  | [d1, d2, d3] => { results := [.lit (.bool false)], args := [d1, d2, d3] }
  | _ => none }
def CutFairWrongFalsely : Prop := cutFairRow.holds Tryz.pinned (OpenSpec.ofChange cutFairWrong)

/-- 'acreagelaw.AskTells': WHATEVER THE INPUT: true; the input reads as it did. -/
def askTellsSpec : ChangeSpec := { name := "askTells", fn := fun _ => fun
  | [d1, d2, d3, d4] => { results := [.lit (.bool true)], args := [d1, d2, d3, d4] }
  | _ => none }
def askTellsRow : OpenClaim := { program := "ytecibbokbonmcaegreat", sum := "2d2ca102876e87315b2cc15d5caaff17cb52d5422c47fd3672ace4f29f27cb10", func := "acreage/acreagelaw.AskTells", spec := "askTells", unfollowed := true, recurses := true, apart := false }
def AskTellsSaid : Prop := askTellsRow.holds Tryz.pinned (OpenSpec.ofChange askTellsSpec)

/-- ITS FALSE NEIGHBOUR: 'it returns false'. Refute it at one input. -/
def askTellsWrong : ChangeSpec := { name := "askTells", fn := fun _ => fun
  | [d1, d2, d3, d4] => { results := [.lit (.bool false)], args := [d1, d2, d3, d4] }
  | _ => none }
def AskTellsWrongFalsely : Prop := askTellsRow.holds Tryz.pinned (OpenSpec.ofChange askTellsWrong)

/- THE SECOND FORM. 'bulk': how many values and letters a reading holds, each counted each time it is reached (what is shared counts as often as it is met; a slice's spare places count too). A statement '..UptoSaid' is the law's where the arguments, and the package variables that the reading takes, are together of bulk at most 1048576: NARROWER than '..Said'. Prove '..Said' where nothing that the law and all that it calls make is longer than what came in: it says more and counts as full. Else prove '..UptoSaid'. A law counts once. -/
mutual
def uptoBulk {H : Type} : DataW H → Nat
  | .lit (.string bytes) => bytes.length + 1
  | .lit _ => 1
  | .nil => 1
  | .ptr d => uptoBulk d + 1
  | .slice elems spare => uptoBulkAll elems + uptoBulkAll spare + 1
  | .agg parts => uptoBulkAll parts + 1
  | .iface _ d => uptoBulk d + 1
  | .map entries => uptoBulkEntries entries + 1
  | .held _ => 1
def uptoBulkAll {H : Type} : List (DataW H) → Nat
  | [] => 0
  | d :: r => uptoBulk d + uptoBulkAll r
def uptoBulkEntries {H : Type} : List (Lit × DataW H) → Nat
  | [] => 0
  | x :: r => uptoBulkEntry x + uptoBulkEntries r
def uptoBulkEntry {H : Type} : Lit × DataW H → Nat
  | (.string bytes, d) => bytes.length + uptoBulk d + 1
  | (_, d) => uptoBulk d + 1
 end
def uptoSmall : (H : Type) → List (DataW H) → Bool := fun _ ds => decide (uptoBulkAll ds ≤ 1048576)
def OpenSpec.upto (s : _root_.Go.ChangeSpec) : _root_.Go.OpenSpec := { _root_.Go.OpenSpec.ofChange s with cond := some uptoSmall }

/-- 'acreagelaw.CutTells', WHERE WHAT IT READS IS OF BULK AT MOST 1048576: true; the input reads as it did. -/
def cutTellsUptoRow : OpenClaim := { program := "ytecibbokbonmcaegreat", sum := "2d2ca102876e87315b2cc15d5caaff17cb52d5422c47fd3672ace4f29f27cb10", func := "acreage/acreagelaw.CutTells", spec := "cutTells", inPlace := ["slices.overlaps[acreage/api.Book]"], unfollowed := true, recurses := true, apart := false, narrowed := true }
def CutTellsUptoSaid : Prop := cutTellsUptoRow.holds Tryz.pinned (OpenSpec.upto cutTellsSpec)

/-- 'acreagelaw.CutTrue', WHERE WHAT IT READS IS OF BULK AT MOST 1048576: true; the input reads as it did. -/
def cutTrueUptoRow : OpenClaim := { program := "ytecibbokbonmcaegreat", sum := "2d2ca102876e87315b2cc15d5caaff17cb52d5422c47fd3672ace4f29f27cb10", func := "acreage/acreagelaw.CutTrue", spec := "cutTrue", inPlace := ["slices.overlaps[acreage/api.Book]"], unfollowed := true, recurses := true, apart := false, narrowed := true }
def CutTrueUptoSaid : Prop := cutTrueUptoRow.holds Tryz.pinned (OpenSpec.upto cutTrueSpec)

/-- 'acreagelaw.CutNone', WHERE WHAT IT READS IS OF BULK AT MOST 1048576: true; the input reads as it did. -/
def cutNoneUptoRow : OpenClaim := { program := "ytecibbokbonmcaegreat", sum := "2d2ca102876e87315b2cc15d5caaff17cb52d5422c47fd3672ace4f29f27cb10", func := "acreage/acreagelaw.CutNone", spec := "cutNone", inPlace := ["slices.overlaps[acreage/api.Book]"], unfollowed := true, recurses := true, apart := false, narrowed := true }
def CutNoneUptoSaid : Prop := cutNoneUptoRow.holds Tryz.pinned (OpenSpec.upto cutNoneSpec)

/-- 'acreagelaw.CutFair', WHERE WHAT IT READS IS OF BULK AT MOST 1048576: true; the input reads as it did. -/
def cutFairUptoRow : OpenClaim := { program := "ytecibbokbonmcaegreat", sum := "2d2ca102876e87315b2cc15d5caaff17cb52d5422c47fd3672ace4f29f27cb10", func := "acreage/acreagelaw.CutFair", spec := "cutFair", inPlace := ["slices.overlaps[acreage/api.Book]"], unfollowed := true, recurses := true, apart := false, narrowed := true }
def CutFairUptoSaid : Prop := cutFairUptoRow.holds Tryz.pinned (OpenSpec.upto cutFairSpec)

/-- 'acreagelaw.AskTells', WHERE WHAT IT READS IS OF BULK AT MOST 1048576: true; the input reads as it did. -/
def askTellsUptoRow : OpenClaim := { program := "ytecibbokbonmcaegreat", sum := "2d2ca102876e87315b2cc15d5caaff17cb52d5422c47fd3672ace4f29f27cb10", func := "acreage/acreagelaw.AskTells", spec := "askTells", unfollowed := true, recurses := true, apart := false, narrowed := true }
def AskTellsUptoSaid : Prop := askTellsUptoRow.holds Tryz.pinned (OpenSpec.upto askTellsSpec)

end Rows
end Go.Proofs.YtecibbokbonmcaeGreat
