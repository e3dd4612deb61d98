/-
  No cell of these rows narrows 'for every input' (looked for: loops, veiled, ifaces, maps, wideKeys, modest, calm, conditions, laid).
  DERIVED. THE GIVEN ROWS OF THIS SEAT. 6 by the template 'for every input the law returns true; each argument reads behind the call as it read before'; 0 by the template 'total and deterministic' (their statements: YtlkaamgmjgkpaacTotals.lean).
  GIVEN WITH THE SEED: the statements are not yours to turn. If you find one false, say at which input.
  Laid BY PROGRAM, IN A SANDBOX (cutbox-rows.mjs): the forced cells as the released guide's own fill.sh prints them over the translation d1b4e4b63ef1afd0… (all of the seat's roots in one cut). By AI agents, Wed Nov 11 2026. No macro, syntax, notation, axiom, sorry.
-/
import Derived.Test.YtlkaamgmjgkpaacChecked
import GoSem.Claim
import GoSem.ClaimJoined
import GoSem.ClaimMapViews
import Derived.JoinedTies
import Derived.KernelRfl
namespace Go.Proofs.Ytlkaamgmjgkpaac
/- THE CELL 'sum', in the pinned program and in every row, IS THE sha256 OF THE DUMP (.gsa) THAT YtlkaamgmjgkpaacProg.lean LOADS. Nothing in Lean hashes anything: it is a label: what it is worth is what the hold of that sum in a sandbox is worth. -/
noncomputable def Try.pinned : Pinned := { name := "ytlkaamgmjgkpaac", sum := "d1b4e4b63ef1afd0dad4a553bdb13164d15f42f355201595bfb33e12cc1e8724", checked := Try.checked }
namespace Rows
def none {H : Type} : Left H := { results := [], args := [] }

/-- 'acreagelaw.RoomFirst': WHATEVER THE INPUT: true; the input reads as it did. -/
def roomFirstSpec : ChangeSpec := { name := "roomFirst", fn := fun _ => fun
  | [d1, d2, d3, d4, d5] => { results := [.lit (.bool true)], args := [d1, d2, d3, d4, d5] }
  | _ => none }
def roomFirstRow : OpenClaim := { program := "ytlkaamgmjgkpaac", sum := "d1b4e4b63ef1afd0dad4a553bdb13164d15f42f355201595bfb33e12cc1e8724", func := "acreage/acreagelaw.RoomFirst", spec := "roomFirst", unfollowed := true, recurses := true, apart := false }
def RoomFirstSaid : Prop := roomFirstRow.holds Try.pinned (OpenSpec.ofChange roomFirstSpec)

/-- ITS FALSE NEIGHBOUR: 'it returns false'. Refute it at one input. -/
def roomFirstWrong : ChangeSpec := { name := "roomFirst", fn := fun _ => fun
  | [d1, d2, d3, d4, d5] => { results := [.lit (.bool false)], args := [d1, d2, d3, d4, d5] }
  | _ => none }
def RoomFirstWrongFalsely : Prop := roomFirstRow.holds Try.pinned (OpenSpec.ofChange roomFirstWrong)

/-- 'acreagelaw.RoomTrue': WHATEVER THE INPUT: true; the input reads as it did. -/
def roomTrueSpec : ChangeSpec := { name := "roomTrue", fn := fun _ => fun
  | [d1, d2, d3, d4, d5, d6] => { results := [.lit (.bool true)], args := [d1, d2, d3, d4, d5, d6] }
  | _ => none }
def roomTrueRow : OpenClaim := { program := "ytlkaamgmjgkpaac", sum := "d1b4e4b63ef1afd0dad4a553bdb13164d15f42f355201595bfb33e12cc1e8724", func := "acreage/acreagelaw.RoomTrue", spec := "roomTrue", unfollowed := true, recurses := true, apart := false }
def RoomTrueSaid : Prop := roomTrueRow.holds Try.pinned (OpenSpec.ofChange roomTrueSpec)

/-- ITS FALSE NEIGHBOUR: 'it returns false'. Refute it at one input. -/
def roomTrueWrong : ChangeSpec := { name := "roomTrue", fn := fun _ => fun
  | [d1, d2, d3, d4, d5, d6] => { results := [.lit (.bool false)], args := [d1, d2, d3, d4, d5, d6] }
  | _ => none }
def RoomTrueWrongFalsely : Prop := roomTrueRow.holds Try.pinned (OpenSpec.ofChange roomTrueWrong)

/-- 'acreagelaw.PlaceFinds': WHATEVER THE INPUT: true; the input reads as it did. -/
def placeFindsSpec : ChangeSpec := { name := "placeFinds", fn := fun _ => fun
  | [d1, d2] => { results := [.lit (.bool true)], args := [d1, d2] }
  | _ => none }
def placeFindsRow : OpenClaim := { program := "ytlkaamgmjgkpaac", sum := "d1b4e4b63ef1afd0dad4a553bdb13164d15f42f355201595bfb33e12cc1e8724", func := "acreage/acreagelaw.PlaceFinds", spec := "placeFinds", unfollowed := true, recurses := true, apart := false }
def PlaceFindsSaid : Prop := placeFindsRow.holds Try.pinned (OpenSpec.ofChange placeFindsSpec)

/-- ITS FALSE NEIGHBOUR: 'it returns false'. Refute it at one input. -/
def placeFindsWrong : ChangeSpec := { name := "placeFinds", fn := fun _ => fun
  | [d1, d2] => { results := [.lit (.bool false)], args := [d1, d2] }
  | _ => none }
def PlaceFindsWrongFalsely : Prop := placeFindsRow.holds Try.pinned (OpenSpec.ofChange placeFindsWrong)

/-- 'acreagelaw.PlaceTrue': WHATEVER THE INPUT: true; the input reads as it did. -/
def placeTrueSpec : ChangeSpec := { name := "placeTrue", fn := fun _ => fun
  | [d1, d2] => { results := [.lit (.bool true)], args := [d1, d2] }
  | _ => none }
def placeTrueRow : OpenClaim := { program := "ytlkaamgmjgkpaac", sum := "d1b4e4b63ef1afd0dad4a553bdb13164d15f42f355201595bfb33e12cc1e8724", func := "acreage/acreagelaw.PlaceTrue", spec := "placeTrue", unfollowed := true, recurses := true, apart := false }
def PlaceTrueSaid : Prop := placeTrueRow.holds Try.pinned (OpenSpec.ofChange placeTrueSpec)

/-- ITS FALSE NEIGHBOUR: 'it returns false'. Refute it at one input. -/
def placeTrueWrong : ChangeSpec := { name := "placeTrue", fn := fun _ => fun
  | [d1, d2] => { results := [.lit (.bool false)], args := [d1, d2] }
  | _ => none }
def PlaceTrueWrongFalsely : Prop := placeTrueRow.holds Try.pinned (OpenSpec.ofChange placeTrueWrong)

/-- 'acreagelaw.PlaceSure': WHATEVER THE INPUT: true; the input reads as it did. -/
def placeSureSpec : ChangeSpec := { name := "placeSure", fn := fun _ => fun
  | [d1, d2, d3] => { results := [.lit (.bool true)], args := [d1, d2, d3] }
  | _ => none }
def placeSureRow : OpenClaim := { program := "ytlkaamgmjgkpaac", sum := "d1b4e4b63ef1afd0dad4a553bdb13164d15f42f355201595bfb33e12cc1e8724", func := "acreage/acreagelaw.PlaceSure", spec := "placeSure", unfollowed := true, recurses := true, apart := false }
def PlaceSureSaid : Prop := placeSureRow.holds Try.pinned (OpenSpec.ofChange placeSureSpec)

/-- ITS FALSE NEIGHBOUR: 'it returns false'. Refute it at one input. -/
def placeSureWrong : ChangeSpec := { name := "placeSure", fn := fun _ => fun
  | [d1, d2, d3] => { results := [.lit (.bool false)], args := [d1, d2, d3] }
  | _ => none }
def PlaceSureWrongFalsely : Prop := placeSureRow.holds Try.pinned (OpenSpec.ofChange placeSureWrong)

/-- 'acreagelaw.PlanTells': WHATEVER THE INPUT: true; the input reads as it did. -/
def planTellsSpec : ChangeSpec := { name := "planTells", fn := fun _ => fun
  | [d1, d2, d3] => { results := [.lit (.bool true)], args := [d1, d2, d3] }
  | _ => none }
def planTellsRow : OpenClaim := { program := "ytlkaamgmjgkpaac", sum := "d1b4e4b63ef1afd0dad4a553bdb13164d15f42f355201595bfb33e12cc1e8724", func := "acreage/acreagelaw.PlanTells", spec := "planTells", unfollowed := true, recurses := true, apart := false }
def PlanTellsSaid : Prop := planTellsRow.holds Try.pinned (OpenSpec.ofChange planTellsSpec)

/-- ITS FALSE NEIGHBOUR: 'it returns false'. Refute it at one input. -/
def planTellsWrong : ChangeSpec := { name := "planTells", fn := fun _ => fun
  | [d1, d2, d3] => { results := [.lit (.bool false)], args := [d1, d2, d3] }
  | _ => none }
def PlanTellsWrongFalsely : Prop := planTellsRow.holds Try.pinned (OpenSpec.ofChange planTellsWrong)

/- THE SECOND FORM. 'bulk': how many values and letters a reading holds, each counted each time it is reached (what is shared counts as often as it is met; a slice's spare places count too). A statement '..UptoSaid' is the law's where the arguments, and the package variables that the reading takes, are together of bulk at most 1048576: NARROWER than '..Said'. Prove '..Said' where nothing that the law and all that it calls make is longer than what came in: it says more and counts as full. Else prove '..UptoSaid'. A law counts once. -/
mutual
def uptoBulk {H : Type} : DataW H → Nat
  | .lit (.string bytes) => bytes.length + 1
  | .lit _ => 1
  | .nil => 1
  | .ptr d => uptoBulk d + 1
  | .slice elems spare => uptoBulkAll elems + uptoBulkAll spare + 1
  | .agg parts => uptoBulkAll parts + 1
  | .iface _ d => uptoBulk d + 1
  | .map entries => uptoBulkEntries entries + 1
  | .held _ => 1
def uptoBulkAll {H : Type} : List (DataW H) → Nat
  | [] => 0
  | d :: r => uptoBulk d + uptoBulkAll r
def uptoBulkEntries {H : Type} : List (Lit × DataW H) → Nat
  | [] => 0
  | x :: r => uptoBulkEntry x + uptoBulkEntries r
def uptoBulkEntry {H : Type} : Lit × DataW H → Nat
  | (.string bytes, d) => bytes.length + uptoBulk d + 1
  | (_, d) => uptoBulk d + 1
 end
def uptoSmall : (H : Type) → List (DataW H) → Bool := fun _ ds => decide (uptoBulkAll ds ≤ 1048576)
def OpenSpec.upto (s : _root_.Go.ChangeSpec) : _root_.Go.OpenSpec := { _root_.Go.OpenSpec.ofChange s with cond := some uptoSmall }

/-- 'acreagelaw.RoomFirst', WHERE WHAT IT READS IS OF BULK AT MOST 1048576: true; the input reads as it did. -/
def roomFirstUptoRow : OpenClaim := { program := "ytlkaamgmjgkpaac", sum := "d1b4e4b63ef1afd0dad4a553bdb13164d15f42f355201595bfb33e12cc1e8724", func := "acreage/acreagelaw.RoomFirst", spec := "roomFirst", unfollowed := true, recurses := true, apart := false, narrowed := true }
def RoomFirstUptoSaid : Prop := roomFirstUptoRow.holds Try.pinned (OpenSpec.upto roomFirstSpec)

/-- 'acreagelaw.RoomTrue', WHERE WHAT IT READS IS OF BULK AT MOST 1048576: true; the input reads as it did. -/
def roomTrueUptoRow : OpenClaim := { program := "ytlkaamgmjgkpaac", sum := "d1b4e4b63ef1afd0dad4a553bdb13164d15f42f355201595bfb33e12cc1e8724", func := "acreage/acreagelaw.RoomTrue", spec := "roomTrue", unfollowed := true, recurses := true, apart := false, narrowed := true }
def RoomTrueUptoSaid : Prop := roomTrueUptoRow.holds Try.pinned (OpenSpec.upto roomTrueSpec)

/-- 'acreagelaw.PlaceFinds', WHERE WHAT IT READS IS OF BULK AT MOST 1048576: true; the input reads as it did. -/
def placeFindsUptoRow : OpenClaim := { program := "ytlkaamgmjgkpaac", sum := "d1b4e4b63ef1afd0dad4a553bdb13164d15f42f355201595bfb33e12cc1e8724", func := "acreage/acreagelaw.PlaceFinds", spec := "placeFinds", unfollowed := true, recurses := true, apart := false, narrowed := true }
def PlaceFindsUptoSaid : Prop := placeFindsUptoRow.holds Try.pinned (OpenSpec.upto placeFindsSpec)

/-- 'acreagelaw.PlaceTrue', WHERE WHAT IT READS IS OF BULK AT MOST 1048576: true; the input reads as it did. -/
def placeTrueUptoRow : OpenClaim := { program := "ytlkaamgmjgkpaac", sum := "d1b4e4b63ef1afd0dad4a553bdb13164d15f42f355201595bfb33e12cc1e8724", func := "acreage/acreagelaw.PlaceTrue", spec := "placeTrue", unfollowed := true, recurses := true, apart := false, narrowed := true }
def PlaceTrueUptoSaid : Prop := placeTrueUptoRow.holds Try.pinned (OpenSpec.upto placeTrueSpec)

/-- 'acreagelaw.PlaceSure', WHERE WHAT IT READS IS OF BULK AT MOST 1048576: true; the input reads as it did. -/
def placeSureUptoRow : OpenClaim := { program := "ytlkaamgmjgkpaac", sum := "d1b4e4b63ef1afd0dad4a553bdb13164d15f42f355201595bfb33e12cc1e8724", func := "acreage/acreagelaw.PlaceSure", spec := "placeSure", unfollowed := true, recurses := true, apart := false, narrowed := true }
def PlaceSureUptoSaid : Prop := placeSureUptoRow.holds Try.pinned (OpenSpec.upto placeSureSpec)

/-- 'acreagelaw.PlanTells', WHERE WHAT IT READS IS OF BULK AT MOST 1048576: true; the input reads as it did. -/
def planTellsUptoRow : OpenClaim := { program := "ytlkaamgmjgkpaac", sum := "d1b4e4b63ef1afd0dad4a553bdb13164d15f42f355201595bfb33e12cc1e8724", func := "acreage/acreagelaw.PlanTells", spec := "planTells", unfollowed := true, recurses := true, apart := false, narrowed := true }
def PlanTellsUptoSaid : Prop := planTellsUptoRow.holds Try.pinned (OpenSpec.upto planTellsSpec)

end Rows
end Go.Proofs.Ytlkaamgmjgkpaac
