/-
  No cell of these rows narrows 'for every input' (looked for: loops, veiled, ifaces, maps, wideKeys, modest, calm, conditions, laid).
  DERIVED. THE GIVEN ROWS OF THIS SEAT. 10 by the template 'for every input the law returns true; each argument reads behind the call as it read before'; 0 by the template 'total and deterministic' (their statements: YtegclofijaoajaaGreatTotals.lean).
  GIVEN WITH THE SEED: the statements are not yours to turn. If you find one false, say at which input.
  Laid BY PROGRAM, IN A SANDBOX (cutbox-rows.mjs): the forced cells as the released guide's own fill.sh prints them over the translation 1df97b69f1227b26… (all of the seat's roots in one cut). By AI agents, Wed Nov 11 2026. No macro, syntax, notation, axiom, sorry.
-/
import Derived.Test.YtegclofijaoajaaGreatChecked
import GoSem.Claim
import GoSem.ClaimJoined
import GoSem.ClaimMapViews
import Derived.JoinedTies
import Derived.KernelRfl
namespace Go.Proofs.YtegclofijaoajaaGreat
/- THE CELL 'sum', in the pinned program and in every row, IS THE sha256 OF THE DUMP (.gsa) THAT YtegclofijaoajaaGreatProg.lean LOADS. Nothing in Lean hashes anything: it is a label: what it is worth is what the hold of that sum in a sandbox is worth. -/
noncomputable def Tryz.pinned : Pinned := { name := "ytegclofijaoajaagreat", sum := "1df97b69f1227b26a017ede4f9b9c11c0b5f395a2856bae98d85615fc952c678", checked := Tryz.checked }
namespace Rows
def none {H : Type} : Left H := { results := [], args := [] }

/-- 'laws.FnInverse': WHATEVER THE INPUT: true; the input reads as it did. -/
def fnInverseSpec : ChangeSpec := { name := "fnInverse", fn := fun _ => fun
  | [d] => { results := [.lit (.bool true)], args := [d] }
  | _ => none }
def fnInverseRow : OpenClaim := { program := "ytegclofijaoajaagreat", sum := "1df97b69f1227b26a017ede4f9b9c11c0b5f395a2856bae98d85615fc952c678", func := "loop.example/g00830/laws.FnInverse", spec := "fnInverse", unfollowed := true, recurses := true, apart := false }
def FnInverseSaid : Prop := fnInverseRow.holds Tryz.pinned (OpenSpec.ofChange fnInverseSpec)

/-- ITS FALSE NEIGHBOUR: 'it returns false'. Refute it at one input. -/
def fnInverseWrong : ChangeSpec := { name := "fnInverse", fn := fun _ => fun
  | [d] => { results := [.lit (.bool false)], args := [d] }
  | _ => none }
def FnInverseWrongFalsely : Prop := fnInverseRow.holds Tryz.pinned (OpenSpec.ofChange fnInverseWrong)

/-- 'laws.FnNull': WHATEVER THE INPUT: true; the input reads as it did. -/
def fnNullSpec : ChangeSpec := { name := "fnNull", fn := fun _ => fun
  | [d] => { results := [.lit (.bool true)], args := [d] }
  | _ => none }
def fnNullRow : OpenClaim := { program := "ytegclofijaoajaagreat", sum := "1df97b69f1227b26a017ede4f9b9c11c0b5f395a2856bae98d85615fc952c678", func := "loop.example/g00830/laws.FnNull", spec := "fnNull", unfollowed := true, recurses := true, apart := false }
def FnNullSaid : Prop := fnNullRow.holds Tryz.pinned (OpenSpec.ofChange fnNullSpec)

/-- ITS FALSE NEIGHBOUR: 'it returns false'. Refute it at one input. -/
def fnNullWrong : ChangeSpec := { name := "fnNull", fn := fun _ => fun
  | [d] => { results := [.lit (.bool false)], args := [d] }
  | _ => none }
def FnNullWrongFalsely : Prop := fnNullRow.holds Tryz.pinned (OpenSpec.ofChange fnNullWrong)

/-- 'laws.FnFactors': WHATEVER THE INPUT: true; the input reads as it did. -/
def fnFactorsSpec : ChangeSpec := { name := "fnFactors", fn := fun _ => fun
  | [d] => { results := [.lit (.bool true)], args := [d] }
  | _ => none }
def fnFactorsRow : OpenClaim := { program := "ytegclofijaoajaagreat", sum := "1df97b69f1227b26a017ede4f9b9c11c0b5f395a2856bae98d85615fc952c678", func := "loop.example/g00830/laws.FnFactors", spec := "fnFactors", unfollowed := true, recurses := true, apart := false }
def FnFactorsSaid : Prop := fnFactorsRow.holds Tryz.pinned (OpenSpec.ofChange fnFactorsSpec)

/-- ITS FALSE NEIGHBOUR: 'it returns false'. Refute it at one input. -/
def fnFactorsWrong : ChangeSpec := { name := "fnFactors", fn := fun _ => fun
  | [d] => { results := [.lit (.bool false)], args := [d] }
  | _ => none }
def FnFactorsWrongFalsely : Prop := fnFactorsRow.holds Tryz.pinned (OpenSpec.ofChange fnFactorsWrong)

/-- 'laws.FnSolved': WHATEVER THE INPUT: true; the input reads as it did. -/
def fnSolvedSpec : ChangeSpec := { name := "fnSolved", fn := fun _ => fun
  | [d] => { results := [.lit (.bool true)], args := [d] }
  | _ => none }
def fnSolvedRow : OpenClaim := { program := "ytegclofijaoajaagreat", sum := "1df97b69f1227b26a017ede4f9b9c11c0b5f395a2856bae98d85615fc952c678", func := "loop.example/g00830/laws.FnSolved", spec := "fnSolved", unfollowed := true, recurses := true, apart := false }
def FnSolvedSaid : Prop := fnSolvedRow.holds Tryz.pinned (OpenSpec.ofChange fnSolvedSpec)

/-- ITS FALSE NEIGHBOUR: 'it returns false'. Refute it at one input. -/
def fnSolvedWrong : ChangeSpec := { name := "fnSolved", fn := fun _ => fun
  | [d] => { results := [.lit (.bool false)], args := [d] }
  | _ => none }
def FnSolvedWrongFalsely : Prop := fnSolvedRow.holds Tryz.pinned (OpenSpec.ofChange fnSolvedWrong)

/-- 'laws.FnExactSolveProgram': WHATEVER THE INPUT: true; the input reads as it did. -/
def fnExactSolveProgramSpec : ChangeSpec := { name := "fnExactSolveProgram", fn := fun _ => fun
  | [d] => { results := [.lit (.bool true)], args := [d] }
  | _ => none }
def fnExactSolveProgramRow : OpenClaim := { program := "ytegclofijaoajaagreat", sum := "1df97b69f1227b26a017ede4f9b9c11c0b5f395a2856bae98d85615fc952c678", func := "loop.example/g00830/laws.FnExactSolveProgram", spec := "fnExactSolveProgram", unfollowed := true, recurses := true, apart := false }
def FnExactSolveProgramSaid : Prop := fnExactSolveProgramRow.holds Tryz.pinned (OpenSpec.ofChange fnExactSolveProgramSpec)

/-- ITS FALSE NEIGHBOUR: 'it returns false'. Refute it at one input. -/
def fnExactSolveProgramWrong : ChangeSpec := { name := "fnExactSolveProgram", fn := fun _ => fun
  | [d] => { results := [.lit (.bool false)], args := [d] }
  | _ => none }
def FnExactSolveProgramWrongFalsely : Prop := fnExactSolveProgramRow.holds Tryz.pinned (OpenSpec.ofChange fnExactSolveProgramWrong)

/-- 'laws.FnExactHasSolution': WHATEVER THE INPUT: true; the input reads as it did. -/
def fnExactHasSolutionSpec : ChangeSpec := { name := "fnExactHasSolution", fn := fun _ => fun
  | [d] => { results := [.lit (.bool true)], args := [d] }
  | _ => none }
def fnExactHasSolutionRow : OpenClaim := { program := "ytegclofijaoajaagreat", sum := "1df97b69f1227b26a017ede4f9b9c11c0b5f395a2856bae98d85615fc952c678", func := "loop.example/g00830/laws.FnExactHasSolution", spec := "fnExactHasSolution", unfollowed := true, recurses := true, apart := false }
def FnExactHasSolutionSaid : Prop := fnExactHasSolutionRow.holds Tryz.pinned (OpenSpec.ofChange fnExactHasSolutionSpec)

/-- ITS FALSE NEIGHBOUR: 'it returns false'. Refute it at one input. -/
def fnExactHasSolutionWrong : ChangeSpec := { name := "fnExactHasSolution", fn := fun _ => fun
  | [d] => { results := [.lit (.bool false)], args := [d] }
  | _ => none }
def FnExactHasSolutionWrongFalsely : Prop := fnExactHasSolutionRow.holds Tryz.pinned (OpenSpec.ofChange fnExactHasSolutionWrong)

/-- 'laws.FnExactLeastOf': WHATEVER THE INPUT: true; the input reads as it did. -/
def fnExactLeastOfSpec : ChangeSpec := { name := "fnExactLeastOf", fn := fun _ => fun
  | [d] => { results := [.lit (.bool true)], args := [d] }
  | _ => none }
def fnExactLeastOfRow : OpenClaim := { program := "ytegclofijaoajaagreat", sum := "1df97b69f1227b26a017ede4f9b9c11c0b5f395a2856bae98d85615fc952c678", func := "loop.example/g00830/laws.FnExactLeastOf", spec := "fnExactLeastOf", unfollowed := true, recurses := true, apart := false }
def FnExactLeastOfSaid : Prop := fnExactLeastOfRow.holds Tryz.pinned (OpenSpec.ofChange fnExactLeastOfSpec)

/-- ITS FALSE NEIGHBOUR: 'it returns false'. Refute it at one input. -/
def fnExactLeastOfWrong : ChangeSpec := { name := "fnExactLeastOf", fn := fun _ => fun
  | [d] => { results := [.lit (.bool false)], args := [d] }
  | _ => none }
def FnExactLeastOfWrongFalsely : Prop := fnExactLeastOfRow.holds Tryz.pinned (OpenSpec.ofChange fnExactLeastOfWrong)

/-- 'laws.FnExactFarkasOf': WHATEVER THE INPUT: true; the input reads as it did. -/
def fnExactFarkasOfSpec : ChangeSpec := { name := "fnExactFarkasOf", fn := fun _ => fun
  | [d] => { results := [.lit (.bool true)], args := [d] }
  | _ => none }
def fnExactFarkasOfRow : OpenClaim := { program := "ytegclofijaoajaagreat", sum := "1df97b69f1227b26a017ede4f9b9c11c0b5f395a2856bae98d85615fc952c678", func := "loop.example/g00830/laws.FnExactFarkasOf", spec := "fnExactFarkasOf", unfollowed := true, recurses := true, apart := false }
def FnExactFarkasOfSaid : Prop := fnExactFarkasOfRow.holds Tryz.pinned (OpenSpec.ofChange fnExactFarkasOfSpec)

/-- ITS FALSE NEIGHBOUR: 'it returns false'. Refute it at one input. -/
def fnExactFarkasOfWrong : ChangeSpec := { name := "fnExactFarkasOf", fn := fun _ => fun
  | [d] => { results := [.lit (.bool false)], args := [d] }
  | _ => none }
def FnExactFarkasOfWrongFalsely : Prop := fnExactFarkasOfRow.holds Tryz.pinned (OpenSpec.ofChange fnExactFarkasOfWrong)

/-- 'laws.FnExactDualOf': WHATEVER THE INPUT: true; the input reads as it did. -/
def fnExactDualOfSpec : ChangeSpec := { name := "fnExactDualOf", fn := fun _ => fun
  | [d] => { results := [.lit (.bool true)], args := [d] }
  | _ => none }
def fnExactDualOfRow : OpenClaim := { program := "ytegclofijaoajaagreat", sum := "1df97b69f1227b26a017ede4f9b9c11c0b5f395a2856bae98d85615fc952c678", func := "loop.example/g00830/laws.FnExactDualOf", spec := "fnExactDualOf", unfollowed := true, recurses := true, apart := false }
def FnExactDualOfSaid : Prop := fnExactDualOfRow.holds Tryz.pinned (OpenSpec.ofChange fnExactDualOfSpec)

/-- ITS FALSE NEIGHBOUR: 'it returns false'. Refute it at one input. -/
def fnExactDualOfWrong : ChangeSpec := { name := "fnExactDualOf", fn := fun _ => fun
  | [d] => { results := [.lit (.bool false)], args := [d] }
  | _ => none }
def FnExactDualOfWrongFalsely : Prop := fnExactDualOfRow.holds Tryz.pinned (OpenSpec.ofChange fnExactDualOfWrong)

/-- 'laws.FnExactCheckResult': WHATEVER THE INPUT: true; the input reads as it did. -/
def fnExactCheckResultSpec : ChangeSpec := { name := "fnExactCheckResult", fn := fun _ => fun
  | [d1, d2, d3] => { results := [.lit (.bool true)], args := [d1, d2, d3] }
  | _ => none }
def fnExactCheckResultRow : OpenClaim := { program := "ytegclofijaoajaagreat", sum := "1df97b69f1227b26a017ede4f9b9c11c0b5f395a2856bae98d85615fc952c678", func := "loop.example/g00830/laws.FnExactCheckResult", spec := "fnExactCheckResult", unfollowed := true, recurses := true, apart := false }
def FnExactCheckResultSaid : Prop := fnExactCheckResultRow.holds Tryz.pinned (OpenSpec.ofChange fnExactCheckResultSpec)

/-- ITS FALSE NEIGHBOUR: 'it returns false'. Refute it at one input. -/
def fnExactCheckResultWrong : ChangeSpec := { name := "fnExactCheckResult", fn := fun _ => fun
  | [d1, d2, d3] => { results := [.lit (.bool false)], args := [d1, d2, d3] }
  | _ => none }
def FnExactCheckResultWrongFalsely : Prop := fnExactCheckResultRow.holds Tryz.pinned (OpenSpec.ofChange fnExactCheckResultWrong)

/- THE SECOND FORM. 'bulk': how many values and letters a reading holds, each counted each time it is reached (what is shared counts as often as it is met; a slice's spare places count too). A statement '..UptoSaid' is the law's where the arguments, and the package variables that the reading takes, are together of bulk at most 1048576: NARROWER than '..Said'. Prove '..Said' where nothing that the law and all that it calls make is longer than what came in: it says more and counts as full. Else prove '..UptoSaid'. A law counts once. -/
mutual
def uptoBulk {H : Type} : DataW H → Nat
  | .lit (.string bytes) => bytes.length + 1
  | .lit _ => 1
  | .nil => 1
  | .ptr d => uptoBulk d + 1
  | .slice elems spare => uptoBulkAll elems + uptoBulkAll spare + 1
  | .agg parts => uptoBulkAll parts + 1
  | .iface _ d => uptoBulk d + 1
  | .map entries => uptoBulkEntries entries + 1
  | .held _ => 1
def uptoBulkAll {H : Type} : List (DataW H) → Nat
  | [] => 0
  | d :: r => uptoBulk d + uptoBulkAll r
def uptoBulkEntries {H : Type} : List (Lit × DataW H) → Nat
  | [] => 0
  | x :: r => uptoBulkEntry x + uptoBulkEntries r
def uptoBulkEntry {H : Type} : Lit × DataW H → Nat
  | (.string bytes, d) => bytes.length + uptoBulk d + 1
  | (_, d) => uptoBulk d + 1
 end
def uptoSmall : (H : Type) → List (DataW H) → Bool := fun _ ds => decide (uptoBulkAll ds ≤ 1048576)
def OpenSpec.upto (s : _root_.Go.ChangeSpec) : _root_.Go.OpenSpec := { _root_.Go.OpenSpec.ofChange s with cond := some uptoSmall }

/-- 'laws.FnInverse', WHERE WHAT IT READS IS OF BULK AT MOST 1048576: true; the input reads as it did. -/
def fnInverseUptoRow : OpenClaim := { program := "ytegclofijaoajaagreat", sum := "1df97b69f1227b26a017ede4f9b9c11c0b5f395a2856bae98d85615fc952c678", func := "loop.example/g00830/laws.FnInverse", spec := "fnInverse", unfollowed := true, recurses := true, apart := false, narrowed := true }
def FnInverseUptoSaid : Prop := fnInverseUptoRow.holds Tryz.pinned (OpenSpec.upto fnInverseSpec)

/-- 'laws.FnNull', WHERE WHAT IT READS IS OF BULK AT MOST 1048576: true; the input reads as it did. -/
def fnNullUptoRow : OpenClaim := { program := "ytegclofijaoajaagreat", sum := "1df97b69f1227b26a017ede4f9b9c11c0b5f395a2856bae98d85615fc952c678", func := "loop.example/g00830/laws.FnNull", spec := "fnNull", unfollowed := true, recurses := true, apart := false, narrowed := true }
def FnNullUptoSaid : Prop := fnNullUptoRow.holds Tryz.pinned (OpenSpec.upto fnNullSpec)

/-- 'laws.FnFactors', WHERE WHAT IT READS IS OF BULK AT MOST 1048576: true; the input reads as it did. -/
def fnFactorsUptoRow : OpenClaim := { program := "ytegclofijaoajaagreat", sum := "1df97b69f1227b26a017ede4f9b9c11c0b5f395a2856bae98d85615fc952c678", func := "loop.example/g00830/laws.FnFactors", spec := "fnFactors", unfollowed := true, recurses := true, apart := false, narrowed := true }
def FnFactorsUptoSaid : Prop := fnFactorsUptoRow.holds Tryz.pinned (OpenSpec.upto fnFactorsSpec)

/-- 'laws.FnSolved', WHERE WHAT IT READS IS OF BULK AT MOST 1048576: true; the input reads as it did. -/
def fnSolvedUptoRow : OpenClaim := { program := "ytegclofijaoajaagreat", sum := "1df97b69f1227b26a017ede4f9b9c11c0b5f395a2856bae98d85615fc952c678", func := "loop.example/g00830/laws.FnSolved", spec := "fnSolved", unfollowed := true, recurses := true, apart := false, narrowed := true }
def FnSolvedUptoSaid : Prop := fnSolvedUptoRow.holds Tryz.pinned (OpenSpec.upto fnSolvedSpec)

/-- 'laws.FnExactSolveProgram', WHERE WHAT IT READS IS OF BULK AT MOST 1048576: true; the input reads as it did. -/
def fnExactSolveProgramUptoRow : OpenClaim := { program := "ytegclofijaoajaagreat", sum := "1df97b69f1227b26a017ede4f9b9c11c0b5f395a2856bae98d85615fc952c678", func := "loop.example/g00830/laws.FnExactSolveProgram", spec := "fnExactSolveProgram", unfollowed := true, recurses := true, apart := false, narrowed := true }
def FnExactSolveProgramUptoSaid : Prop := fnExactSolveProgramUptoRow.holds Tryz.pinned (OpenSpec.upto fnExactSolveProgramSpec)

/-- 'laws.FnExactHasSolution', WHERE WHAT IT READS IS OF BULK AT MOST 1048576: true; the input reads as it did. -/
def fnExactHasSolutionUptoRow : OpenClaim := { program := "ytegclofijaoajaagreat", sum := "1df97b69f1227b26a017ede4f9b9c11c0b5f395a2856bae98d85615fc952c678", func := "loop.example/g00830/laws.FnExactHasSolution", spec := "fnExactHasSolution", unfollowed := true, recurses := true, apart := false, narrowed := true }
def FnExactHasSolutionUptoSaid : Prop := fnExactHasSolutionUptoRow.holds Tryz.pinned (OpenSpec.upto fnExactHasSolutionSpec)

/-- 'laws.FnExactLeastOf', WHERE WHAT IT READS IS OF BULK AT MOST 1048576: true; the input reads as it did. -/
def fnExactLeastOfUptoRow : OpenClaim := { program := "ytegclofijaoajaagreat", sum := "1df97b69f1227b26a017ede4f9b9c11c0b5f395a2856bae98d85615fc952c678", func := "loop.example/g00830/laws.FnExactLeastOf", spec := "fnExactLeastOf", unfollowed := true, recurses := true, apart := false, narrowed := true }
def FnExactLeastOfUptoSaid : Prop := fnExactLeastOfUptoRow.holds Tryz.pinned (OpenSpec.upto fnExactLeastOfSpec)

/-- 'laws.FnExactFarkasOf', WHERE WHAT IT READS IS OF BULK AT MOST 1048576: true; the input reads as it did. -/
def fnExactFarkasOfUptoRow : OpenClaim := { program := "ytegclofijaoajaagreat", sum := "1df97b69f1227b26a017ede4f9b9c11c0b5f395a2856bae98d85615fc952c678", func := "loop.example/g00830/laws.FnExactFarkasOf", spec := "fnExactFarkasOf", unfollowed := true, recurses := true, apart := false, narrowed := true }
def FnExactFarkasOfUptoSaid : Prop := fnExactFarkasOfUptoRow.holds Tryz.pinned (OpenSpec.upto fnExactFarkasOfSpec)

/-- 'laws.FnExactDualOf', WHERE WHAT IT READS IS OF BULK AT MOST 1048576: true; the input reads as it did. -/
def fnExactDualOfUptoRow : OpenClaim := { program := "ytegclofijaoajaagreat", sum := "1df97b69f1227b26a017ede4f9b9c11c0b5f395a2856bae98d85615fc952c678", func := "loop.example/g00830/laws.FnExactDualOf", spec := "fnExactDualOf", unfollowed := true, recurses := true, apart := false, narrowed := true }
def FnExactDualOfUptoSaid : Prop := fnExactDualOfUptoRow.holds Tryz.pinned (OpenSpec.upto fnExactDualOfSpec)

/-- 'laws.FnExactCheckResult', WHERE WHAT IT READS IS OF BULK AT MOST 1048576: true; the input reads as it did. -/
def fnExactCheckResultUptoRow : OpenClaim := { program := "ytegclofijaoajaagreat", sum := "1df97b69f1227b26a017ede4f9b9c11c0b5f395a2856bae98d85615fc952c678", func := "loop.example/g00830/laws.FnExactCheckResult", spec := "fnExactCheckResult", unfollowed := true, recurses := true, apart := false, narrowed := true }
def FnExactCheckResultUptoSaid : Prop := fnExactCheckResultUptoRow.holds Tryz.pinned (OpenSpec.upto fnExactCheckResultSpec)

end Rows
end Go.Proofs.YtegclofijaoajaaGreat
