/-
  No cell of these rows narrows 'for every input' (looked for: loops, veiled, ifaces, maps, wideKeys, modest, calm, conditions, laid).
  DERIVED. THE GIVEN ROWS OF THIS SEAT. 8 by the template 'for every input the law returns true; each argument reads behind the call as it read before'; 0 by the template 'total and deterministic' (their statements: YtibheldbjjdinaaGreatTotals.lean).
  GIVEN WITH THE SEED: the statements are not yours to turn. If you find one false, say at which input.
  Laid BY PROGRAM, IN A SANDBOX (cutbox-rows.mjs): the forced cells as the released guide's own fill.sh prints them over the translation 0fb1c807643e6fa8… (all of the seat's roots in one cut). By AI agents, Wed Nov 11 2026. No macro, syntax, notation, axiom, sorry.
-/
import Derived.Test.YtibheldbjjdinaaGreatChecked
import GoSem.Claim
import GoSem.ClaimJoined
import GoSem.ClaimMapViews
import Derived.JoinedTies
import Derived.KernelRfl
namespace Go.Proofs.YtibheldbjjdinaaGreat
/- THE CELL 'sum', in the pinned program and in every row, IS THE sha256 OF THE DUMP (.gsa) THAT YtibheldbjjdinaaGreatProg.lean LOADS. Nothing in Lean hashes anything: it is a label: what it is worth is what the hold of that sum in a sandbox is worth. -/
noncomputable def Tryz.pinned : Pinned := { name := "ytibheldbjjdinaagreat", sum := "0fb1c807643e6fa8c350cf16f1831eccf1ae372471d92040863cd314e5afbd4c", checked := Tryz.checked }
namespace Rows
def none {H : Type} : Left H := { results := [], args := [] }

/-- 'laws.FnInverse': WHATEVER THE INPUT: true; the input reads as it did. -/
def fnInverseSpec : ChangeSpec := { name := "fnInverse", fn := fun _ => fun
  | [d] => { results := [.lit (.bool true)], args := [d] }
  | _ => none }
def fnInverseRow : OpenClaim := { program := "ytibheldbjjdinaagreat", sum := "0fb1c807643e6fa8c350cf16f1831eccf1ae372471d92040863cd314e5afbd4c", func := "loop.example/g00830/laws.FnInverse", spec := "fnInverse", unfollowed := true, recurses := true, apart := false }
def FnInverseSaid : Prop := fnInverseRow.holds Tryz.pinned (OpenSpec.ofChange fnInverseSpec)

/-- ITS FALSE NEIGHBOUR: 'it returns false'. Refute it at one input. -/
def fnInverseWrong : ChangeSpec := { name := "fnInverse", fn := fun _ => fun
  | [d] => { results := [.lit (.bool false)], args := [d] }
  | _ => none }
def FnInverseWrongFalsely : Prop := fnInverseRow.holds Tryz.pinned (OpenSpec.ofChange fnInverseWrong)

/-- 'laws.FnNull': WHATEVER THE INPUT: true; the input reads as it did. -/
def fnNullSpec : ChangeSpec := { name := "fnNull", fn := fun _ => fun
  | [d] => { results := [.lit (.bool true)], args := [d] }
  | _ => none }
def fnNullRow : OpenClaim := { program := "ytibheldbjjdinaagreat", sum := "0fb1c807643e6fa8c350cf16f1831eccf1ae372471d92040863cd314e5afbd4c", func := "loop.example/g00830/laws.FnNull", spec := "fnNull", unfollowed := true, recurses := true, apart := false }
def FnNullSaid : Prop := fnNullRow.holds Tryz.pinned (OpenSpec.ofChange fnNullSpec)

/-- ITS FALSE NEIGHBOUR: 'it returns false'. Refute it at one input. -/
def fnNullWrong : ChangeSpec := { name := "fnNull", fn := fun _ => fun
  | [d] => { results := [.lit (.bool false)], args := [d] }
  | _ => none }
def FnNullWrongFalsely : Prop := fnNullRow.holds Tryz.pinned (OpenSpec.ofChange fnNullWrong)

/-- 'laws.FnExactReduce': WHATEVER THE INPUT: true; the input reads as it did. -/
def fnExactReduceSpec : ChangeSpec := { name := "fnExactReduce", fn := fun _ => fun
  | [d] => { results := [.lit (.bool true)], args := [d] }
  | _ => none }
def fnExactReduceRow : OpenClaim := { program := "ytibheldbjjdinaagreat", sum := "0fb1c807643e6fa8c350cf16f1831eccf1ae372471d92040863cd314e5afbd4c", func := "loop.example/g00830/laws.FnExactReduce", spec := "fnExactReduce", unfollowed := true, recurses := true, apart := false }
def FnExactReduceSaid : Prop := fnExactReduceRow.holds Tryz.pinned (OpenSpec.ofChange fnExactReduceSpec)

/-- ITS FALSE NEIGHBOUR: 'it returns false'. Refute it at one input. -/
def fnExactReduceWrong : ChangeSpec := { name := "fnExactReduce", fn := fun _ => fun
  | [d] => { results := [.lit (.bool false)], args := [d] }
  | _ => none }
def FnExactReduceWrongFalsely : Prop := fnExactReduceRow.holds Tryz.pinned (OpenSpec.ofChange fnExactReduceWrong)

/-- 'laws.FnExactRankOf': WHATEVER THE INPUT: true; the input reads as it did. -/
def fnExactRankOfSpec : ChangeSpec := { name := "fnExactRankOf", fn := fun _ => fun
  | [d] => { results := [.lit (.bool true)], args := [d] }
  | _ => none }
def fnExactRankOfRow : OpenClaim := { program := "ytibheldbjjdinaagreat", sum := "0fb1c807643e6fa8c350cf16f1831eccf1ae372471d92040863cd314e5afbd4c", func := "loop.example/g00830/laws.FnExactRankOf", spec := "fnExactRankOf", unfollowed := true, recurses := true, apart := false }
def FnExactRankOfSaid : Prop := fnExactRankOfRow.holds Tryz.pinned (OpenSpec.ofChange fnExactRankOfSpec)

/-- ITS FALSE NEIGHBOUR: 'it returns false'. Refute it at one input. -/
def fnExactRankOfWrong : ChangeSpec := { name := "fnExactRankOf", fn := fun _ => fun
  | [d] => { results := [.lit (.bool false)], args := [d] }
  | _ => none }
def FnExactRankOfWrongFalsely : Prop := fnExactRankOfRow.holds Tryz.pinned (OpenSpec.ofChange fnExactRankOfWrong)

/-- 'laws.FnExactDeterminant': WHATEVER THE INPUT: true; the input reads as it did. -/
def fnExactDeterminantSpec : ChangeSpec := { name := "fnExactDeterminant", fn := fun _ => fun
  | [d] => { results := [.lit (.bool true)], args := [d] }
  | _ => none }
def fnExactDeterminantRow : OpenClaim := { program := "ytibheldbjjdinaagreat", sum := "0fb1c807643e6fa8c350cf16f1831eccf1ae372471d92040863cd314e5afbd4c", func := "loop.example/g00830/laws.FnExactDeterminant", spec := "fnExactDeterminant", unfollowed := true, recurses := true, apart := false }
def FnExactDeterminantSaid : Prop := fnExactDeterminantRow.holds Tryz.pinned (OpenSpec.ofChange fnExactDeterminantSpec)

/-- ITS FALSE NEIGHBOUR: 'it returns false'. Refute it at one input. -/
def fnExactDeterminantWrong : ChangeSpec := { name := "fnExactDeterminant", fn := fun _ => fun
  | [d] => { results := [.lit (.bool false)], args := [d] }
  | _ => none }
def FnExactDeterminantWrongFalsely : Prop := fnExactDeterminantRow.holds Tryz.pinned (OpenSpec.ofChange fnExactDeterminantWrong)

/-- 'laws.FnExactInverse': WHATEVER THE INPUT: true; the input reads as it did. -/
def fnExactInverseSpec : ChangeSpec := { name := "fnExactInverse", fn := fun _ => fun
  | [d] => { results := [.lit (.bool true)], args := [d] }
  | _ => none }
def fnExactInverseRow : OpenClaim := { program := "ytibheldbjjdinaagreat", sum := "0fb1c807643e6fa8c350cf16f1831eccf1ae372471d92040863cd314e5afbd4c", func := "loop.example/g00830/laws.FnExactInverse", spec := "fnExactInverse", unfollowed := true, recurses := true, apart := false }
def FnExactInverseSaid : Prop := fnExactInverseRow.holds Tryz.pinned (OpenSpec.ofChange fnExactInverseSpec)

/-- ITS FALSE NEIGHBOUR: 'it returns false'. Refute it at one input. -/
def fnExactInverseWrong : ChangeSpec := { name := "fnExactInverse", fn := fun _ => fun
  | [d] => { results := [.lit (.bool false)], args := [d] }
  | _ => none }
def FnExactInverseWrongFalsely : Prop := fnExactInverseRow.holds Tryz.pinned (OpenSpec.ofChange fnExactInverseWrong)

/-- 'laws.FnExactSolveSystem': WHATEVER THE INPUT: true; the input reads as it did. -/
def fnExactSolveSystemSpec : ChangeSpec := { name := "fnExactSolveSystem", fn := fun _ => fun
  | [d1, d2] => { results := [.lit (.bool true)], args := [d1, d2] }
  | _ => none }
def fnExactSolveSystemRow : OpenClaim := { program := "ytibheldbjjdinaagreat", sum := "0fb1c807643e6fa8c350cf16f1831eccf1ae372471d92040863cd314e5afbd4c", func := "loop.example/g00830/laws.FnExactSolveSystem", spec := "fnExactSolveSystem", unfollowed := true, recurses := true, apart := false }
def FnExactSolveSystemSaid : Prop := fnExactSolveSystemRow.holds Tryz.pinned (OpenSpec.ofChange fnExactSolveSystemSpec)

/-- ITS FALSE NEIGHBOUR: 'it returns false'. Refute it at one input. -/
def fnExactSolveSystemWrong : ChangeSpec := { name := "fnExactSolveSystem", fn := fun _ => fun
  | [d1, d2] => { results := [.lit (.bool false)], args := [d1, d2] }
  | _ => none }
def FnExactSolveSystemWrongFalsely : Prop := fnExactSolveSystemRow.holds Tryz.pinned (OpenSpec.ofChange fnExactSolveSystemWrong)

/-- 'laws.FnExactNullVectors': WHATEVER THE INPUT: true; the input reads as it did. -/
def fnExactNullVectorsSpec : ChangeSpec := { name := "fnExactNullVectors", fn := fun _ => fun
  | [d] => { results := [.lit (.bool true)], args := [d] }
  | _ => none }
def fnExactNullVectorsRow : OpenClaim := { program := "ytibheldbjjdinaagreat", sum := "0fb1c807643e6fa8c350cf16f1831eccf1ae372471d92040863cd314e5afbd4c", func := "loop.example/g00830/laws.FnExactNullVectors", spec := "fnExactNullVectors", unfollowed := true, recurses := true, apart := false }
def FnExactNullVectorsSaid : Prop := fnExactNullVectorsRow.holds Tryz.pinned (OpenSpec.ofChange fnExactNullVectorsSpec)

/-- ITS FALSE NEIGHBOUR: 'it returns false'. Refute it at one input. -/
def fnExactNullVectorsWrong : ChangeSpec := { name := "fnExactNullVectors", fn := fun _ => fun
  | [d] => { results := [.lit (.bool false)], args := [d] }
  | _ => none }
def FnExactNullVectorsWrongFalsely : Prop := fnExactNullVectorsRow.holds Tryz.pinned (OpenSpec.ofChange fnExactNullVectorsWrong)

/- THE SECOND FORM. 'bulk': how many values and letters a reading holds, each counted each time it is reached (what is shared counts as often as it is met; a slice's spare places count too). A statement '..UptoSaid' is the law's where the arguments, and the package variables that the reading takes, are together of bulk at most 1048576: NARROWER than '..Said'. Prove '..Said' where nothing that the law and all that it calls make is longer than what came in: it says more and counts as full. Else prove '..UptoSaid'. A law counts once. -/
mutual
def uptoBulk {H : Type} : DataW H → Nat
  | .lit (.string bytes) => bytes.length + 1
  | .lit _ => 1
  | .nil => 1
  | .ptr d => uptoBulk d + 1
  | .slice elems spare => uptoBulkAll elems + uptoBulkAll spare + 1
  | .agg parts => uptoBulkAll parts + 1
  | .iface _ d => uptoBulk d + 1
  | .map entries => uptoBulkEntries entries + 1
  | .held _ => 1
def uptoBulkAll {H : Type} : List (DataW H) → Nat
  | [] => 0
  | d :: r => uptoBulk d + uptoBulkAll r
def uptoBulkEntries {H : Type} : List (Lit × DataW H) → Nat
  | [] => 0
  | x :: r => uptoBulkEntry x + uptoBulkEntries r
def uptoBulkEntry {H : Type} : Lit × DataW H → Nat
  | (.string bytes, d) => bytes.length + uptoBulk d + 1
  | (_, d) => uptoBulk d + 1
 end
def uptoSmall : (H : Type) → List (DataW H) → Bool := fun _ ds => decide (uptoBulkAll ds ≤ 1048576)
def OpenSpec.upto (s : _root_.Go.ChangeSpec) : _root_.Go.OpenSpec := { _root_.Go.OpenSpec.ofChange s with cond := some uptoSmall }

/-- 'laws.FnInverse', WHERE WHAT IT READS IS OF BULK AT MOST 1048576: true; the input reads as it did. -/
def fnInverseUptoRow : OpenClaim := { program := "ytibheldbjjdinaagreat", sum := "0fb1c807643e6fa8c350cf16f1831eccf1ae372471d92040863cd314e5afbd4c", func := "loop.example/g00830/laws.FnInverse", spec := "fnInverse", unfollowed := true, recurses := true, apart := false, narrowed := true }
def FnInverseUptoSaid : Prop := fnInverseUptoRow.holds Tryz.pinned (OpenSpec.upto fnInverseSpec)

/-- 'laws.FnNull', WHERE WHAT IT READS IS OF BULK AT MOST 1048576: true; the input reads as it did. -/
def fnNullUptoRow : OpenClaim := { program := "ytibheldbjjdinaagreat", sum := "0fb1c807643e6fa8c350cf16f1831eccf1ae372471d92040863cd314e5afbd4c", func := "loop.example/g00830/laws.FnNull", spec := "fnNull", unfollowed := true, recurses := true, apart := false, narrowed := true }
def FnNullUptoSaid : Prop := fnNullUptoRow.holds Tryz.pinned (OpenSpec.upto fnNullSpec)

/-- 'laws.FnExactReduce', WHERE WHAT IT READS IS OF BULK AT MOST 1048576: true; the input reads as it did. -/
def fnExactReduceUptoRow : OpenClaim := { program := "ytibheldbjjdinaagreat", sum := "0fb1c807643e6fa8c350cf16f1831eccf1ae372471d92040863cd314e5afbd4c", func := "loop.example/g00830/laws.FnExactReduce", spec := "fnExactReduce", unfollowed := true, recurses := true, apart := false, narrowed := true }
def FnExactReduceUptoSaid : Prop := fnExactReduceUptoRow.holds Tryz.pinned (OpenSpec.upto fnExactReduceSpec)

/-- 'laws.FnExactRankOf', WHERE WHAT IT READS IS OF BULK AT MOST 1048576: true; the input reads as it did. -/
def fnExactRankOfUptoRow : OpenClaim := { program := "ytibheldbjjdinaagreat", sum := "0fb1c807643e6fa8c350cf16f1831eccf1ae372471d92040863cd314e5afbd4c", func := "loop.example/g00830/laws.FnExactRankOf", spec := "fnExactRankOf", unfollowed := true, recurses := true, apart := false, narrowed := true }
def FnExactRankOfUptoSaid : Prop := fnExactRankOfUptoRow.holds Tryz.pinned (OpenSpec.upto fnExactRankOfSpec)

/-- 'laws.FnExactDeterminant', WHERE WHAT IT READS IS OF BULK AT MOST 1048576: true; the input reads as it did. -/
def fnExactDeterminantUptoRow : OpenClaim := { program := "ytibheldbjjdinaagreat", sum := "0fb1c807643e6fa8c350cf16f1831eccf1ae372471d92040863cd314e5afbd4c", func := "loop.example/g00830/laws.FnExactDeterminant", spec := "fnExactDeterminant", unfollowed := true, recurses := true, apart := false, narrowed := true }
def FnExactDeterminantUptoSaid : Prop := fnExactDeterminantUptoRow.holds Tryz.pinned (OpenSpec.upto fnExactDeterminantSpec)

/-- 'laws.FnExactInverse', WHERE WHAT IT READS IS OF BULK AT MOST 1048576: true; the input reads as it did. -/
def fnExactInverseUptoRow : OpenClaim := { program := "ytibheldbjjdinaagreat", sum := "0fb1c807643e6fa8c350cf16f1831eccf1ae372471d92040863cd314e5afbd4c", func := "loop.example/g00830/laws.FnExactInverse", spec := "fnExactInverse", unfollowed := true, recurses := true, apart := false, narrowed := true }
def FnExactInverseUptoSaid : Prop := fnExactInverseUptoRow.holds Tryz.pinned (OpenSpec.upto fnExactInverseSpec)

/-- 'laws.FnExactSolveSystem', WHERE WHAT IT READS IS OF BULK AT MOST 1048576: true; the input reads as it did. -/
def fnExactSolveSystemUptoRow : OpenClaim := { program := "ytibheldbjjdinaagreat", sum := "0fb1c807643e6fa8c350cf16f1831eccf1ae372471d92040863cd314e5afbd4c", func := "loop.example/g00830/laws.FnExactSolveSystem", spec := "fnExactSolveSystem", unfollowed := true, recurses := true, apart := false, narrowed := true }
def FnExactSolveSystemUptoSaid : Prop := fnExactSolveSystemUptoRow.holds Tryz.pinned (OpenSpec.upto fnExactSolveSystemSpec)

/-- 'laws.FnExactNullVectors', WHERE WHAT IT READS IS OF BULK AT MOST 1048576: true; the input reads as it did. -/
def fnExactNullVectorsUptoRow : OpenClaim := { program := "ytibheldbjjdinaagreat", sum := "0fb1c807643e6fa8c350cf16f1831eccf1ae372471d92040863cd314e5afbd4c", func := "loop.example/g00830/laws.FnExactNullVectors", spec := "fnExactNullVectors", unfollowed := true, recurses := true, apart := false, narrowed := true }
def FnExactNullVectorsUptoSaid : Prop := fnExactNullVectorsUptoRow.holds Tryz.pinned (OpenSpec.upto fnExactNullVectorsSpec)

end Rows
end Go.Proofs.YtibheldbjjdinaaGreat
