/-
  No cell of these rows narrows 'for every input' (looked for: loops, veiled, ifaces, maps, wideKeys, modest, calm, conditions, laid).
  DERIVED. THE GIVEN ROWS OF THIS SEAT. 8 by the template 'for every input the law returns true; each argument reads behind the call as it read before'; 0 by the template 'total and deterministic' (their statements: YtipmeijfmiiedaaTotals.lean).
  GIVEN WITH THE SEED: the statements are not yours to turn. If you find one false, say at which input.
  Laid BY PROGRAM, IN A SANDBOX (cutbox-rows.mjs): the forced cells as the released guide's own fill.sh prints them over the translation f9c9fd9002576652… (all of the seat's roots in one cut). By AI agents, Wed Nov 11 2026. No macro, syntax, notation, axiom, sorry.
-/
import Derived.Test.YtipmeijfmiiedaaChecked
import GoSem.Claim
import GoSem.ClaimJoined
import GoSem.ClaimMapViews
import Derived.JoinedTies
import Derived.KernelRfl
namespace Go.Proofs.Ytipmeijfmiiedaa
/- THE CELL 'sum', in the pinned program and in every row, IS THE sha256 OF THE DUMP (.gsa) THAT YtipmeijfmiiedaaProg.lean LOADS. Nothing in Lean hashes anything: it is a label: what it is worth is what the hold of that sum in a sandbox is worth. -/
noncomputable def Try.pinned : Pinned := { name := "ytipmeijfmiiedaa", sum := "f9c9fd90025766521617751ccca6ed393569dc88781f1342a559fe6fcc5389ea", checked := Try.checked }
namespace Rows
def none {H : Type} : Left H := { results := [], args := [] }

/-- 'laws.FnMixed': WHATEVER THE INPUT: true; the input reads as it did. -/
def fnMixedSpec : ChangeSpec := { name := "fnMixed", fn := fun _ => fun
  | [d] => { results := [.lit (.bool true)], args := [d] }
  | _ => none }
def fnMixedRow : OpenClaim := { program := "ytipmeijfmiiedaa", sum := "f9c9fd90025766521617751ccca6ed393569dc88781f1342a559fe6fcc5389ea", func := "loop.example/g00830/laws.FnMixed", spec := "fnMixed", unfollowed := true, recurses := true, apart := false }
def FnMixedSaid : Prop := fnMixedRow.holds Try.pinned (OpenSpec.ofChange fnMixedSpec)

/-- ITS FALSE NEIGHBOUR: 'it returns false'. Refute it at one input. -/
def fnMixedWrong : ChangeSpec := { name := "fnMixed", fn := fun _ => fun
  | [d] => { results := [.lit (.bool false)], args := [d] }
  | _ => none }
def FnMixedWrongFalsely : Prop := fnMixedRow.holds Try.pinned (OpenSpec.ofChange fnMixedWrong)

/-- 'laws.FnExactLoadOk': WHATEVER THE INPUT: true; the input reads as it did. -/
def fnExactLoadOkSpec : ChangeSpec := { name := "fnExactLoadOk", fn := fun _ => fun
  | [d1, d2] => { results := [.lit (.bool true)], args := [d1, d2] }
  | _ => none }
def fnExactLoadOkRow : OpenClaim := { program := "ytipmeijfmiiedaa", sum := "f9c9fd90025766521617751ccca6ed393569dc88781f1342a559fe6fcc5389ea", func := "loop.example/g00830/laws.FnExactLoadOk", spec := "fnExactLoadOk", unfollowed := true, recurses := true, apart := false }
def FnExactLoadOkSaid : Prop := fnExactLoadOkRow.holds Try.pinned (OpenSpec.ofChange fnExactLoadOkSpec)

/-- ITS FALSE NEIGHBOUR: 'it returns false'. Refute it at one input. -/
def fnExactLoadOkWrong : ChangeSpec := { name := "fnExactLoadOk", fn := fun _ => fun
  | [d1, d2] => { results := [.lit (.bool false)], args := [d1, d2] }
  | _ => none }
def FnExactLoadOkWrongFalsely : Prop := fnExactLoadOkRow.holds Try.pinned (OpenSpec.ofChange fnExactLoadOkWrong)

/-- 'laws.FnExactNoLoad': WHATEVER THE INPUT: true; the input reads as it did. -/
def fnExactNoLoadSpec : ChangeSpec := { name := "fnExactNoLoad", fn := fun _ => fun
  | [d] => { results := [.lit (.bool true)], args := [d] }
  | _ => none }
def fnExactNoLoadRow : OpenClaim := { program := "ytipmeijfmiiedaa", sum := "f9c9fd90025766521617751ccca6ed393569dc88781f1342a559fe6fcc5389ea", func := "loop.example/g00830/laws.FnExactNoLoad", spec := "fnExactNoLoad", unfollowed := true, recurses := true, apart := false }
def FnExactNoLoadSaid : Prop := fnExactNoLoadRow.holds Try.pinned (OpenSpec.ofChange fnExactNoLoadSpec)

/-- ITS FALSE NEIGHBOUR: 'it returns false'. Refute it at one input. -/
def fnExactNoLoadWrong : ChangeSpec := { name := "fnExactNoLoad", fn := fun _ => fun
  | [d] => { results := [.lit (.bool false)], args := [d] }
  | _ => none }
def FnExactNoLoadWrongFalsely : Prop := fnExactNoLoadRow.holds Try.pinned (OpenSpec.ofChange fnExactNoLoadWrong)

/-- 'laws.FnExactPutLoad': WHATEVER THE INPUT: true; the input reads as it did. -/
def fnExactPutLoadSpec : ChangeSpec := { name := "fnExactPutLoad", fn := fun _ => fun
  | [d1, d2, d3, d4, d5] => { results := [.lit (.bool true)], args := [d1, d2, d3, d4, d5] }
  | _ => none }
def fnExactPutLoadRow : OpenClaim := { program := "ytipmeijfmiiedaa", sum := "f9c9fd90025766521617751ccca6ed393569dc88781f1342a559fe6fcc5389ea", func := "loop.example/g00830/laws.FnExactPutLoad", spec := "fnExactPutLoad", unfollowed := true, recurses := true, apart := false }
def FnExactPutLoadSaid : Prop := fnExactPutLoadRow.holds Try.pinned (OpenSpec.ofChange fnExactPutLoadSpec)

/-- ITS FALSE NEIGHBOUR: 'it returns false'. Refute it at one input. -/
def fnExactPutLoadWrong : ChangeSpec := { name := "fnExactPutLoad", fn := fun _ => fun
  | [d1, d2, d3, d4, d5] => { results := [.lit (.bool false)], args := [d1, d2, d3, d4, d5] }
  | _ => none }
def FnExactPutLoadWrongFalsely : Prop := fnExactPutLoadRow.holds Try.pinned (OpenSpec.ofChange fnExactPutLoadWrong)

/-- 'laws.FnExactMixLoads': WHATEVER THE INPUT: true; the input reads as it did. -/
def fnExactMixLoadsSpec : ChangeSpec := { name := "fnExactMixLoads", fn := fun _ => fun
  | [d1, d2, d3] => { results := [.lit (.bool true)], args := [d1, d2, d3] }
  | _ => none }
def fnExactMixLoadsRow : OpenClaim := { program := "ytipmeijfmiiedaa", sum := "f9c9fd90025766521617751ccca6ed393569dc88781f1342a559fe6fcc5389ea", func := "loop.example/g00830/laws.FnExactMixLoads", spec := "fnExactMixLoads", unfollowed := true, recurses := true, apart := false }
def FnExactMixLoadsSaid : Prop := fnExactMixLoadsRow.holds Try.pinned (OpenSpec.ofChange fnExactMixLoadsSpec)

/-- ITS FALSE NEIGHBOUR: 'it returns false'. Refute it at one input. -/
def fnExactMixLoadsWrong : ChangeSpec := { name := "fnExactMixLoads", fn := fun _ => fun
  | [d1, d2, d3] => { results := [.lit (.bool false)], args := [d1, d2, d3] }
  | _ => none }
def FnExactMixLoadsWrongFalsely : Prop := fnExactMixLoadsRow.holds Try.pinned (OpenSpec.ofChange fnExactMixLoadsWrong)

/-- 'laws.FnExactTotalOf': WHATEVER THE INPUT: true; the input reads as it did. -/
def fnExactTotalOfSpec : ChangeSpec := { name := "fnExactTotalOf", fn := fun _ => fun
  | [d1, d2] => { results := [.lit (.bool true)], args := [d1, d2] }
  | _ => none }
def fnExactTotalOfRow : OpenClaim := { program := "ytipmeijfmiiedaa", sum := "f9c9fd90025766521617751ccca6ed393569dc88781f1342a559fe6fcc5389ea", func := "loop.example/g00830/laws.FnExactTotalOf", spec := "fnExactTotalOf", unfollowed := true, recurses := true, apart := false }
def FnExactTotalOfSaid : Prop := fnExactTotalOfRow.holds Try.pinned (OpenSpec.ofChange fnExactTotalOfSpec)

/-- ITS FALSE NEIGHBOUR: 'it returns false'. Refute it at one input. -/
def fnExactTotalOfWrong : ChangeSpec := { name := "fnExactTotalOf", fn := fun _ => fun
  | [d1, d2] => { results := [.lit (.bool false)], args := [d1, d2] }
  | _ => none }
def FnExactTotalOfWrongFalsely : Prop := fnExactTotalOfRow.holds Try.pinned (OpenSpec.ofChange fnExactTotalOfWrong)

/-- 'laws.FnExactMomentOf': WHATEVER THE INPUT: true; the input reads as it did. -/
def fnExactMomentOfSpec : ChangeSpec := { name := "fnExactMomentOf", fn := fun _ => fun
  | [d1, d2, d3, d4] => { results := [.lit (.bool true)], args := [d1, d2, d3, d4] }
  | _ => none }
def fnExactMomentOfRow : OpenClaim := { program := "ytipmeijfmiiedaa", sum := "f9c9fd90025766521617751ccca6ed393569dc88781f1342a559fe6fcc5389ea", func := "loop.example/g00830/laws.FnExactMomentOf", spec := "fnExactMomentOf", unfollowed := true, recurses := true, apart := false }
def FnExactMomentOfSaid : Prop := fnExactMomentOfRow.holds Try.pinned (OpenSpec.ofChange fnExactMomentOfSpec)

/-- ITS FALSE NEIGHBOUR: 'it returns false'. Refute it at one input. -/
def fnExactMomentOfWrong : ChangeSpec := { name := "fnExactMomentOf", fn := fun _ => fun
  | [d1, d2, d3, d4] => { results := [.lit (.bool false)], args := [d1, d2, d3, d4] }
  | _ => none }
def FnExactMomentOfWrongFalsely : Prop := fnExactMomentOfRow.holds Try.pinned (OpenSpec.ofChange fnExactMomentOfWrong)

/-- 'laws.FnExactSameLoads': WHATEVER THE INPUT: true; the input reads as it did. -/
def fnExactSameLoadsSpec : ChangeSpec := { name := "fnExactSameLoads", fn := fun _ => fun
  | [d1, d2] => { results := [.lit (.bool true)], args := [d1, d2] }
  | _ => none }
def fnExactSameLoadsRow : OpenClaim := { program := "ytipmeijfmiiedaa", sum := "f9c9fd90025766521617751ccca6ed393569dc88781f1342a559fe6fcc5389ea", func := "loop.example/g00830/laws.FnExactSameLoads", spec := "fnExactSameLoads", apart := false }
def FnExactSameLoadsSaid : Prop := fnExactSameLoadsRow.holds Try.pinned (OpenSpec.ofChange fnExactSameLoadsSpec)

/-- ITS FALSE NEIGHBOUR: 'it returns false'. Refute it at one input. -/
def fnExactSameLoadsWrong : ChangeSpec := { name := "fnExactSameLoads", fn := fun _ => fun
  | [d1, d2] => { results := [.lit (.bool false)], args := [d1, d2] }
  | _ => none }
def FnExactSameLoadsWrongFalsely : Prop := fnExactSameLoadsRow.holds Try.pinned (OpenSpec.ofChange fnExactSameLoadsWrong)

/- THE SECOND FORM. 'bulk': how many values and letters a reading holds, each counted each time it is reached (what is shared counts as often as it is met; a slice's spare places count too). A statement '..UptoSaid' is the law's where the arguments, and the package variables that the reading takes, are together of bulk at most 1048576: NARROWER than '..Said'. Prove '..Said' where nothing that the law and all that it calls make is longer than what came in: it says more and counts as full. Else prove '..UptoSaid'. A law counts once. -/
mutual
def uptoBulk {H : Type} : DataW H → Nat
  | .lit (.string bytes) => bytes.length + 1
  | .lit _ => 1
  | .nil => 1
  | .ptr d => uptoBulk d + 1
  | .slice elems spare => uptoBulkAll elems + uptoBulkAll spare + 1
  | .agg parts => uptoBulkAll parts + 1
  | .iface _ d => uptoBulk d + 1
  | .map entries => uptoBulkEntries entries + 1
  | .held _ => 1
def uptoBulkAll {H : Type} : List (DataW H) → Nat
  | [] => 0
  | d :: r => uptoBulk d + uptoBulkAll r
def uptoBulkEntries {H : Type} : List (Lit × DataW H) → Nat
  | [] => 0
  | x :: r => uptoBulkEntry x + uptoBulkEntries r
def uptoBulkEntry {H : Type} : Lit × DataW H → Nat
  | (.string bytes, d) => bytes.length + uptoBulk d + 1
  | (_, d) => uptoBulk d + 1
 end
def uptoSmall : (H : Type) → List (DataW H) → Bool := fun _ ds => decide (uptoBulkAll ds ≤ 1048576)
def OpenSpec.upto (s : _root_.Go.ChangeSpec) : _root_.Go.OpenSpec := { _root_.Go.OpenSpec.ofChange s with cond := some uptoSmall }

/-- 'laws.FnMixed', WHERE WHAT IT READS IS OF BULK AT MOST 1048576: true; the input reads as it did. -/
def fnMixedUptoRow : OpenClaim := { program := "ytipmeijfmiiedaa", sum := "f9c9fd90025766521617751ccca6ed393569dc88781f1342a559fe6fcc5389ea", func := "loop.example/g00830/laws.FnMixed", spec := "fnMixed", unfollowed := true, recurses := true, apart := false, narrowed := true }
def FnMixedUptoSaid : Prop := fnMixedUptoRow.holds Try.pinned (OpenSpec.upto fnMixedSpec)

/-- 'laws.FnExactLoadOk', WHERE WHAT IT READS IS OF BULK AT MOST 1048576: true; the input reads as it did. -/
def fnExactLoadOkUptoRow : OpenClaim := { program := "ytipmeijfmiiedaa", sum := "f9c9fd90025766521617751ccca6ed393569dc88781f1342a559fe6fcc5389ea", func := "loop.example/g00830/laws.FnExactLoadOk", spec := "fnExactLoadOk", unfollowed := true, recurses := true, apart := false, narrowed := true }
def FnExactLoadOkUptoSaid : Prop := fnExactLoadOkUptoRow.holds Try.pinned (OpenSpec.upto fnExactLoadOkSpec)

/-- 'laws.FnExactNoLoad', WHERE WHAT IT READS IS OF BULK AT MOST 1048576: true; the input reads as it did. -/
def fnExactNoLoadUptoRow : OpenClaim := { program := "ytipmeijfmiiedaa", sum := "f9c9fd90025766521617751ccca6ed393569dc88781f1342a559fe6fcc5389ea", func := "loop.example/g00830/laws.FnExactNoLoad", spec := "fnExactNoLoad", unfollowed := true, recurses := true, apart := false, narrowed := true }
def FnExactNoLoadUptoSaid : Prop := fnExactNoLoadUptoRow.holds Try.pinned (OpenSpec.upto fnExactNoLoadSpec)

/-- 'laws.FnExactPutLoad', WHERE WHAT IT READS IS OF BULK AT MOST 1048576: true; the input reads as it did. -/
def fnExactPutLoadUptoRow : OpenClaim := { program := "ytipmeijfmiiedaa", sum := "f9c9fd90025766521617751ccca6ed393569dc88781f1342a559fe6fcc5389ea", func := "loop.example/g00830/laws.FnExactPutLoad", spec := "fnExactPutLoad", unfollowed := true, recurses := true, apart := false, narrowed := true }
def FnExactPutLoadUptoSaid : Prop := fnExactPutLoadUptoRow.holds Try.pinned (OpenSpec.upto fnExactPutLoadSpec)

/-- 'laws.FnExactMixLoads', WHERE WHAT IT READS IS OF BULK AT MOST 1048576: true; the input reads as it did. -/
def fnExactMixLoadsUptoRow : OpenClaim := { program := "ytipmeijfmiiedaa", sum := "f9c9fd90025766521617751ccca6ed393569dc88781f1342a559fe6fcc5389ea", func := "loop.example/g00830/laws.FnExactMixLoads", spec := "fnExactMixLoads", unfollowed := true, recurses := true, apart := false, narrowed := true }
def FnExactMixLoadsUptoSaid : Prop := fnExactMixLoadsUptoRow.holds Try.pinned (OpenSpec.upto fnExactMixLoadsSpec)

/-- 'laws.FnExactTotalOf', WHERE WHAT IT READS IS OF BULK AT MOST 1048576: true; the input reads as it did. -/
def fnExactTotalOfUptoRow : OpenClaim := { program := "ytipmeijfmiiedaa", sum := "f9c9fd90025766521617751ccca6ed393569dc88781f1342a559fe6fcc5389ea", func := "loop.example/g00830/laws.FnExactTotalOf", spec := "fnExactTotalOf", unfollowed := true, recurses := true, apart := false, narrowed := true }
def FnExactTotalOfUptoSaid : Prop := fnExactTotalOfUptoRow.holds Try.pinned (OpenSpec.upto fnExactTotalOfSpec)

/-- 'laws.FnExactMomentOf', WHERE WHAT IT READS IS OF BULK AT MOST 1048576: true; the input reads as it did. -/
def fnExactMomentOfUptoRow : OpenClaim := { program := "ytipmeijfmiiedaa", sum := "f9c9fd90025766521617751ccca6ed393569dc88781f1342a559fe6fcc5389ea", func := "loop.example/g00830/laws.FnExactMomentOf", spec := "fnExactMomentOf", unfollowed := true, recurses := true, apart := false, narrowed := true }
def FnExactMomentOfUptoSaid : Prop := fnExactMomentOfUptoRow.holds Try.pinned (OpenSpec.upto fnExactMomentOfSpec)

/-- 'laws.FnExactSameLoads', WHERE WHAT IT READS IS OF BULK AT MOST 1048576: true; the input reads as it did. -/
def fnExactSameLoadsUptoRow : OpenClaim := { program := "ytipmeijfmiiedaa", sum := "f9c9fd90025766521617751ccca6ed393569dc88781f1342a559fe6fcc5389ea", func := "loop.example/g00830/laws.FnExactSameLoads", spec := "fnExactSameLoads", apart := false, narrowed := true }
def FnExactSameLoadsUptoSaid : Prop := fnExactSameLoadsUptoRow.holds Try.pinned (OpenSpec.upto fnExactSameLoadsSpec)

end Rows
end Go.Proofs.Ytipmeijfmiiedaa
