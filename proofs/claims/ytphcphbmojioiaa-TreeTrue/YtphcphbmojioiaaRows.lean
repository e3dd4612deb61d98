/-
  No cell of these rows narrows 'for every input' (looked for: loops, veiled, ifaces, maps, wideKeys, modest, calm, conditions, laid).
  DERIVED. THE GIVEN ROWS OF THIS SEAT. 6 by the template 'for every input the law returns true; each argument reads behind the call as it read before'; 0 by the template 'total and deterministic' (their statements: YtphcphbmojioiaaTotals.lean).
  GIVEN WITH THE SEED: the statements are not yours to turn. If you find one false, say at which input.
  Laid BY PROGRAM, IN A SANDBOX (cutbox-rows.mjs): the forced cells as the released guide's own fill.sh prints them over the translation 0ef8a079014580d4… (all of the seat's roots in one cut). By AI agents, Wed Nov 11 2026. No macro, syntax, notation, axiom, sorry.
-/
import Derived.Test.YtphcphbmojioiaaChecked
import GoSem.Claim
import GoSem.ClaimJoined
import GoSem.ClaimMapViews
import Derived.JoinedTies
import Derived.KernelRfl
namespace Go.Proofs.Ytphcphbmojioiaa
/- THE CELL 'sum', in the pinned program and in every row, IS THE sha256 OF THE DUMP (.gsa) THAT YtphcphbmojioiaaProg.lean LOADS. Nothing in Lean hashes anything: it is a label: what it is worth is what the hold of that sum in a sandbox is worth. -/
noncomputable def Try.pinned : Pinned := { name := "ytphcphbmojioiaa", sum := "0ef8a079014580d4e2bab40d7a1ac20a0dbd06ea57aa44f29bfb465460dbe3c2", checked := Try.checked }
namespace Rows
def none {H : Type} : Left H := { results := [], args := [] }

/-- 'acreagelaw.RunsTells': WHATEVER THE INPUT: true; the input reads as it did. -/
def runsTellsSpec : ChangeSpec := { name := "runsTells", fn := fun _ => fun
  | [d1, d2, d3, d4] => { results := [.lit (.bool true)], args := [d1, d2, d3, d4] }
  | _ => none }
def runsTellsRow : OpenClaim := { program := "ytphcphbmojioiaa", sum := "0ef8a079014580d4e2bab40d7a1ac20a0dbd06ea57aa44f29bfb465460dbe3c2", func := "acreage/acreagelaw.RunsTells", spec := "runsTells", unfollowed := true, recurses := true, apart := false }
def RunsTellsSaid : Prop := runsTellsRow.holds Try.pinned (OpenSpec.ofChange runsTellsSpec)

/-- ITS FALSE NEIGHBOUR: 'it returns false'. Refute it at one input. -/
def runsTellsWrong : ChangeSpec := { name := "runsTells", fn := fun _ => fun
  | [d1, d2, d3, d4] => { results := [.lit (.bool false)], args := [d1, d2, d3, d4] }
  | _ => none }
def RunsTellsWrongFalsely : Prop := runsTellsRow.holds Try.pinned (OpenSpec.ofChange runsTellsWrong)

/-- 'acreagelaw.RunsTwo': WHATEVER THE INPUT: true; the input reads as it did. -/
def runsTwoSpec : ChangeSpec := { name := "runsTwo", fn := fun _ => fun
  | [d1, d2] => { results := [.lit (.bool true)], args := [d1, d2] }
  | _ => none }
def runsTwoRow : OpenClaim := { program := "ytphcphbmojioiaa", sum := "0ef8a079014580d4e2bab40d7a1ac20a0dbd06ea57aa44f29bfb465460dbe3c2", func := "acreage/acreagelaw.RunsTwo", spec := "runsTwo", unfollowed := true, recurses := true, apart := false }
def RunsTwoSaid : Prop := runsTwoRow.holds Try.pinned (OpenSpec.ofChange runsTwoSpec)

/-- ITS FALSE NEIGHBOUR: 'it returns false'. Refute it at one input. -/
def runsTwoWrong : ChangeSpec := { name := "runsTwo", fn := fun _ => fun
  | [d1, d2] => { results := [.lit (.bool false)], args := [d1, d2] }
  | _ => none }
def RunsTwoWrongFalsely : Prop := runsTwoRow.holds Try.pinned (OpenSpec.ofChange runsTwoWrong)

/-- 'acreagelaw.RunsBumps': WHATEVER THE INPUT: true; the input reads as it did. -/
def runsBumpsSpec : ChangeSpec := { name := "runsBumps", fn := fun _ => fun
  | [d1, d2, d3, d4] => { results := [.lit (.bool true)], args := [d1, d2, d3, d4] }
  | _ => none }
def runsBumpsRow : OpenClaim := { program := "ytphcphbmojioiaa", sum := "0ef8a079014580d4e2bab40d7a1ac20a0dbd06ea57aa44f29bfb465460dbe3c2", func := "acreage/acreagelaw.RunsBumps", spec := "runsBumps", unfollowed := true, recurses := true, apart := false }
def RunsBumpsSaid : Prop := runsBumpsRow.holds Try.pinned (OpenSpec.ofChange runsBumpsSpec)

/-- ITS FALSE NEIGHBOUR: 'it returns false'. Refute it at one input. -/
def runsBumpsWrong : ChangeSpec := { name := "runsBumps", fn := fun _ => fun
  | [d1, d2, d3, d4] => { results := [.lit (.bool false)], args := [d1, d2, d3, d4] }
  | _ => none }
def RunsBumpsWrongFalsely : Prop := runsBumpsRow.holds Try.pinned (OpenSpec.ofChange runsBumpsWrong)

/-- 'acreagelaw.RunsTrue': WHATEVER THE INPUT: true; the input reads as it did. -/
def runsTrueSpec : ChangeSpec := { name := "runsTrue", fn := fun _ => fun
  | [d1, d2, d3, d4, d5] => { results := [.lit (.bool true)], args := [d1, d2, d3, d4, d5] }
  | _ => none }
def runsTrueRow : OpenClaim := { program := "ytphcphbmojioiaa", sum := "0ef8a079014580d4e2bab40d7a1ac20a0dbd06ea57aa44f29bfb465460dbe3c2", func := "acreage/acreagelaw.RunsTrue", spec := "runsTrue", unfollowed := true, recurses := true, apart := false }
def RunsTrueSaid : Prop := runsTrueRow.holds Try.pinned (OpenSpec.ofChange runsTrueSpec)

/-- ITS FALSE NEIGHBOUR: 'it returns false'. Refute it at one input. -/
def runsTrueWrong : ChangeSpec := { name := "runsTrue", fn := fun _ => fun
  | [d1, d2, d3, d4, d5] => { results := [.lit (.bool false)], args := [d1, d2, d3, d4, d5] }
  | _ => none }
def RunsTrueWrongFalsely : Prop := runsTrueRow.holds Try.pinned (OpenSpec.ofChange runsTrueWrong)

/-- 'acreagelaw.TreeTells': WHATEVER THE INPUT: true; the input reads as it did. -/
def treeTellsSpec : ChangeSpec := { name := "treeTells", fn := fun _ => fun
  | [d1, d2, d3] => { results := [.lit (.bool true)], args := [d1, d2, d3] }
  | _ => none }
def treeTellsRow : OpenClaim := { program := "ytphcphbmojioiaa", sum := "0ef8a079014580d4e2bab40d7a1ac20a0dbd06ea57aa44f29bfb465460dbe3c2", func := "acreage/acreagelaw.TreeTells", spec := "treeTells", unfollowed := true, recurses := true, apart := false }
def TreeTellsSaid : Prop := treeTellsRow.holds Try.pinned (OpenSpec.ofChange treeTellsSpec)

/-- ITS FALSE NEIGHBOUR: 'it returns false'. Refute it at one input. -/
def treeTellsWrong : ChangeSpec := { name := "treeTells", fn := fun _ => fun
  | [d1, d2, d3] => { results := [.lit (.bool false)], args := [d1, d2, d3] }
  | _ => none }
def TreeTellsWrongFalsely : Prop := treeTellsRow.holds Try.pinned (OpenSpec.ofChange treeTellsWrong)

/-- 'acreagelaw.TreeTrue': WHATEVER THE INPUT: true; the input reads as it did. -/
def treeTrueSpec : ChangeSpec := { name := "treeTrue", fn := fun _ => fun
  | [d1, d2, d3] => { results := [.lit (.bool true)], args := [d1, d2, d3] }
  | _ => none }
def treeTrueRow : OpenClaim := { program := "ytphcphbmojioiaa", sum := "0ef8a079014580d4e2bab40d7a1ac20a0dbd06ea57aa44f29bfb465460dbe3c2", func := "acreage/acreagelaw.TreeTrue", spec := "treeTrue", unfollowed := true, recurses := true, apart := false }
def TreeTrueSaid : Prop := treeTrueRow.holds Try.pinned (OpenSpec.ofChange treeTrueSpec)

/-- ITS FALSE NEIGHBOUR: 'it returns false'. Refute it at one input. -/
def treeTrueWrong : ChangeSpec := { name := "treeTrue", fn := fun _ => fun
  | [d1, d2, d3] => { results := [.lit (.bool false)], args := [d1, d2, d3] }
  | _ => none }
def TreeTrueWrongFalsely : Prop := treeTrueRow.holds Try.pinned (OpenSpec.ofChange treeTrueWrong)

/- THE SECOND FORM. 'bulk': how many values and letters a reading holds, each counted each time it is reached (what is shared counts as often as it is met; a slice's spare places count too). A statement '..UptoSaid' is the law's where the arguments, and the package variables that the reading takes, are together of bulk at most 1048576: NARROWER than '..Said'. Prove '..Said' where nothing that the law and all that it calls make is longer than what came in: it says more and counts as full. Else prove '..UptoSaid'. A law counts once. -/
mutual
def uptoBulk {H : Type} : DataW H → Nat
  | .lit (.string bytes) => bytes.length + 1
  | .lit _ => 1
  | .nil => 1
  | .ptr d => uptoBulk d + 1
  | .slice elems spare => uptoBulkAll elems + uptoBulkAll spare + 1
  | .agg parts => uptoBulkAll parts + 1
  | .iface _ d => uptoBulk d + 1
  | .map entries => uptoBulkEntries entries + 1
  | .held _ => 1
def uptoBulkAll {H : Type} : List (DataW H) → Nat
  | [] => 0
  | d :: r => uptoBulk d + uptoBulkAll r
def uptoBulkEntries {H : Type} : List (Lit × DataW H) → Nat
  | [] => 0
  | x :: r => uptoBulkEntry x + uptoBulkEntries r
def uptoBulkEntry {H : Type} : Lit × DataW H → Nat
  | (.string bytes, d) => bytes.length + uptoBulk d + 1
  | (_, d) => uptoBulk d + 1
 end
def uptoSmall : (H : Type) → List (DataW H) → Bool := fun _ ds => decide (uptoBulkAll ds ≤ 1048576)
def OpenSpec.upto (s : _root_.Go.ChangeSpec) : _root_.Go.OpenSpec := { _root_.Go.OpenSpec.ofChange s with cond := some uptoSmall }

/-- 'acreagelaw.RunsTells', WHERE WHAT IT READS IS OF BULK AT MOST 1048576: true; the input reads as it did. -/
def runsTellsUptoRow : OpenClaim := { program := "ytphcphbmojioiaa", sum := "0ef8a079014580d4e2bab40d7a1ac20a0dbd06ea57aa44f29bfb465460dbe3c2", func := "acreage/acreagelaw.RunsTells", spec := "runsTells", unfollowed := true, recurses := true, apart := false, narrowed := true }
def RunsTellsUptoSaid : Prop := runsTellsUptoRow.holds Try.pinned (OpenSpec.upto runsTellsSpec)

/-- 'acreagelaw.RunsTwo', WHERE WHAT IT READS IS OF BULK AT MOST 1048576: true; the input reads as it did. -/
def runsTwoUptoRow : OpenClaim := { program := "ytphcphbmojioiaa", sum := "0ef8a079014580d4e2bab40d7a1ac20a0dbd06ea57aa44f29bfb465460dbe3c2", func := "acreage/acreagelaw.RunsTwo", spec := "runsTwo", unfollowed := true, recurses := true, apart := false, narrowed := true }
def RunsTwoUptoSaid : Prop := runsTwoUptoRow.holds Try.pinned (OpenSpec.upto runsTwoSpec)

/-- 'acreagelaw.RunsBumps', WHERE WHAT IT READS IS OF BULK AT MOST 1048576: true; the input reads as it did. -/
def runsBumpsUptoRow : OpenClaim := { program := "ytphcphbmojioiaa", sum := "0ef8a079014580d4e2bab40d7a1ac20a0dbd06ea57aa44f29bfb465460dbe3c2", func := "acreage/acreagelaw.RunsBumps", spec := "runsBumps", unfollowed := true, recurses := true, apart := false, narrowed := true }
def RunsBumpsUptoSaid : Prop := runsBumpsUptoRow.holds Try.pinned (OpenSpec.upto runsBumpsSpec)

/-- 'acreagelaw.RunsTrue', WHERE WHAT IT READS IS OF BULK AT MOST 1048576: true; the input reads as it did. -/
def runsTrueUptoRow : OpenClaim := { program := "ytphcphbmojioiaa", sum := "0ef8a079014580d4e2bab40d7a1ac20a0dbd06ea57aa44f29bfb465460dbe3c2", func := "acreage/acreagelaw.RunsTrue", spec := "runsTrue", unfollowed := true, recurses := true, apart := false, narrowed := true }
def RunsTrueUptoSaid : Prop := runsTrueUptoRow.holds Try.pinned (OpenSpec.upto runsTrueSpec)

/-- 'acreagelaw.TreeTells', WHERE WHAT IT READS IS OF BULK AT MOST 1048576: true; the input reads as it did. -/
def treeTellsUptoRow : OpenClaim := { program := "ytphcphbmojioiaa", sum := "0ef8a079014580d4e2bab40d7a1ac20a0dbd06ea57aa44f29bfb465460dbe3c2", func := "acreage/acreagelaw.TreeTells", spec := "treeTells", unfollowed := true, recurses := true, apart := false, narrowed := true }
def TreeTellsUptoSaid : Prop := treeTellsUptoRow.holds Try.pinned (OpenSpec.upto treeTellsSpec)

/-- 'acreagelaw.TreeTrue', WHERE WHAT IT READS IS OF BULK AT MOST 1048576: true; the input reads as it did. -/
def treeTrueUptoRow : OpenClaim := { program := "ytphcphbmojioiaa", sum := "0ef8a079014580d4e2bab40d7a1ac20a0dbd06ea57aa44f29bfb465460dbe3c2", func := "acreage/acreagelaw.TreeTrue", spec := "treeTrue", unfollowed := true, recurses := true, apart := false, narrowed := true }
def TreeTrueUptoSaid : Prop := treeTrueUptoRow.holds Try.pinned (OpenSpec.upto treeTrueSpec)

end Rows
end Go.Proofs.Ytphcphbmojioiaa
