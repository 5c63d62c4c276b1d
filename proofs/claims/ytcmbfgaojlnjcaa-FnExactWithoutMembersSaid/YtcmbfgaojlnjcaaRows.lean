/-
  No cell of these rows narrows 'for every input' (looked for: loops, veiled, ifaces, maps, wideKeys, modest, calm, conditions, laid).
  DERIVED. THE GIVEN ROWS OF THIS SEAT. 11 by the template 'for every input the law returns true; each argument reads behind the call as it read before'; 0 by the template 'total and deterministic' (their statements: YtcmbfgaojlnjcaaTotals.lean).
  GIVEN WITH THE SEED: the statements are not yours to turn. If you find one false, say at which input.
  Laid BY PROGRAM, IN A SANDBOX (cutbox-rows.mjs): the forced cells as the released guide's own fill.sh prints them over the translation b8f4f6db0ec7957d… (all of the seat's roots in one cut). By AI agents, Wed Nov 11 2026. No macro, syntax, notation, axiom, sorry.
-/
import Derived.Test.YtcmbfgaojlnjcaaChecked
import GoSem.Claim
import GoSem.ClaimJoined
import GoSem.ClaimMapViews
import Derived.JoinedTies
import Derived.KernelRfl
namespace Go.Proofs.Ytcmbfgaojlnjcaa
/- THE CELL 'sum', in the pinned program and in every row, IS THE sha256 OF THE DUMP (.gsa) THAT YtcmbfgaojlnjcaaProg.lean LOADS. Nothing in Lean hashes anything: it is a label: what it is worth is what the hold of that sum in a sandbox is worth. -/
noncomputable def Try.pinned : Pinned := { name := "ytcmbfgaojlnjcaa", sum := "b8f4f6db0ec7957dee473e7369e06016cdd067bb7b8ac8a1d563371094b4aad1", checked := Try.checked }
namespace Rows
def none {H : Type} : Left H := { results := [], args := [] }

/-- 'laws.FnExactFarkasProgram': WHATEVER THE INPUT: true; the input reads as it did. -/
def fnExactFarkasProgramSpec : ChangeSpec := { name := "fnExactFarkasProgram", fn := fun _ => fun
  | [d] => { results := [.lit (.bool true)], args := [d] }
  | _ => none }
def fnExactFarkasProgramRow : OpenClaim := { program := "ytcmbfgaojlnjcaa", sum := "b8f4f6db0ec7957dee473e7369e06016cdd067bb7b8ac8a1d563371094b4aad1", func := "loop.example/g00830/laws.FnExactFarkasProgram", spec := "fnExactFarkasProgram", unfollowed := true, recurses := true, apart := false }
def FnExactFarkasProgramSaid : Prop := fnExactFarkasProgramRow.holds Try.pinned (OpenSpec.ofChange fnExactFarkasProgramSpec)

/-- ITS FALSE NEIGHBOUR: 'it returns false'. Refute it at one input. -/
def fnExactFarkasProgramWrong : ChangeSpec := { name := "fnExactFarkasProgram", fn := fun _ => fun
  | [d] => { results := [.lit (.bool false)], args := [d] }
  | _ => none }
def FnExactFarkasProgramWrongFalsely : Prop := fnExactFarkasProgramRow.holds Try.pinned (OpenSpec.ofChange fnExactFarkasProgramWrong)

/-- 'laws.FnExactDualProgram': WHATEVER THE INPUT: true; the input reads as it did. -/
def fnExactDualProgramSpec : ChangeSpec := { name := "fnExactDualProgram", fn := fun _ => fun
  | [d] => { results := [.lit (.bool true)], args := [d] }
  | _ => none }
def fnExactDualProgramRow : OpenClaim := { program := "ytcmbfgaojlnjcaa", sum := "b8f4f6db0ec7957dee473e7369e06016cdd067bb7b8ac8a1d563371094b4aad1", func := "loop.example/g00830/laws.FnExactDualProgram", spec := "fnExactDualProgram", unfollowed := true, recurses := true, apart := false }
def FnExactDualProgramSaid : Prop := fnExactDualProgramRow.holds Try.pinned (OpenSpec.ofChange fnExactDualProgramSpec)

/-- ITS FALSE NEIGHBOUR: 'it returns false'. Refute it at one input. -/
def fnExactDualProgramWrong : ChangeSpec := { name := "fnExactDualProgram", fn := fun _ => fun
  | [d] => { results := [.lit (.bool false)], args := [d] }
  | _ => none }
def FnExactDualProgramWrongFalsely : Prop := fnExactDualProgramRow.holds Try.pinned (OpenSpec.ofChange fnExactDualProgramWrong)

/-- 'laws.FnExactJointOk': WHATEVER THE INPUT: true; the input reads as it did. -/
def fnExactJointOkSpec : ChangeSpec := { name := "fnExactJointOk", fn := fun _ => fun
  | [d] => { results := [.lit (.bool true)], args := [d] }
  | _ => none }
def fnExactJointOkRow : OpenClaim := { program := "ytcmbfgaojlnjcaa", sum := "b8f4f6db0ec7957dee473e7369e06016cdd067bb7b8ac8a1d563371094b4aad1", func := "loop.example/g00830/laws.FnExactJointOk", spec := "fnExactJointOk", apart := false }
def FnExactJointOkSaid : Prop := fnExactJointOkRow.holds Try.pinned (OpenSpec.ofChange fnExactJointOkSpec)

/-- ITS FALSE NEIGHBOUR: 'it returns false'. Refute it at one input. -/
def fnExactJointOkWrong : ChangeSpec := { name := "fnExactJointOk", fn := fun _ => fun
  | [d] => { results := [.lit (.bool false)], args := [d] }
  | _ => none }
def FnExactJointOkWrongFalsely : Prop := fnExactJointOkRow.holds Try.pinned (OpenSpec.ofChange fnExactJointOkWrong)

/-- 'laws.FnExactStructureOk': WHATEVER THE INPUT: true; the input reads as it did. -/
def fnExactStructureOkSpec : ChangeSpec := { name := "fnExactStructureOk", fn := fun _ => fun
  | [d] => { results := [.lit (.bool true)], args := [d] }
  | _ => none }
def fnExactStructureOkRow : OpenClaim := { program := "ytcmbfgaojlnjcaa", sum := "b8f4f6db0ec7957dee473e7369e06016cdd067bb7b8ac8a1d563371094b4aad1", func := "loop.example/g00830/laws.FnExactStructureOk", spec := "fnExactStructureOk", unfollowed := true, recurses := true, apart := false }
def FnExactStructureOkSaid : Prop := fnExactStructureOkRow.holds Try.pinned (OpenSpec.ofChange fnExactStructureOkSpec)

/-- ITS FALSE NEIGHBOUR: 'it returns false'. Refute it at one input. -/
def fnExactStructureOkWrong : ChangeSpec := { name := "fnExactStructureOk", fn := fun _ => fun
  | [d] => { results := [.lit (.bool false)], args := [d] }
  | _ => none }
def FnExactStructureOkWrongFalsely : Prop := fnExactStructureOkRow.holds Try.pinned (OpenSpec.ofChange fnExactStructureOkWrong)

/-- 'laws.FnExactFreeJoints': WHATEVER THE INPUT: true; the input reads as it did. -/
def fnExactFreeJointsSpec : ChangeSpec := { name := "fnExactFreeJoints", fn := fun _ => fun
  | [d] => { results := [.lit (.bool true)], args := [d] }
  | _ => none }
def fnExactFreeJointsRow : OpenClaim := { program := "ytcmbfgaojlnjcaa", sum := "b8f4f6db0ec7957dee473e7369e06016cdd067bb7b8ac8a1d563371094b4aad1", func := "loop.example/g00830/laws.FnExactFreeJoints", spec := "fnExactFreeJoints", unfollowed := true, recurses := true, apart := false }
def FnExactFreeJointsSaid : Prop := fnExactFreeJointsRow.holds Try.pinned (OpenSpec.ofChange fnExactFreeJointsSpec)

/-- ITS FALSE NEIGHBOUR: 'it returns false'. Refute it at one input. -/
def fnExactFreeJointsWrong : ChangeSpec := { name := "fnExactFreeJoints", fn := fun _ => fun
  | [d] => { results := [.lit (.bool false)], args := [d] }
  | _ => none }
def FnExactFreeJointsWrongFalsely : Prop := fnExactFreeJointsRow.holds Try.pinned (OpenSpec.ofChange fnExactFreeJointsWrong)

/-- 'laws.FnExactJointNamed': WHATEVER THE INPUT: true; the input reads as it did. -/
def fnExactJointNamedSpec : ChangeSpec := { name := "fnExactJointNamed", fn := fun _ => fun
  | [d1, d2] => { results := [.lit (.bool true)], args := [d1, d2] }
  | _ => none }
def fnExactJointNamedRow : OpenClaim := { program := "ytcmbfgaojlnjcaa", sum := "b8f4f6db0ec7957dee473e7369e06016cdd067bb7b8ac8a1d563371094b4aad1", func := "loop.example/g00830/laws.FnExactJointNamed", spec := "fnExactJointNamed", unfollowed := true, recurses := true, apart := false }
def FnExactJointNamedSaid : Prop := fnExactJointNamedRow.holds Try.pinned (OpenSpec.ofChange fnExactJointNamedSpec)

/-- ITS FALSE NEIGHBOUR: 'it returns false'. Refute it at one input. -/
def fnExactJointNamedWrong : ChangeSpec := { name := "fnExactJointNamed", fn := fun _ => fun
  | [d1, d2] => { results := [.lit (.bool false)], args := [d1, d2] }
  | _ => none }
def FnExactJointNamedWrongFalsely : Prop := fnExactJointNamedRow.holds Try.pinned (OpenSpec.ofChange fnExactJointNamedWrong)

/-- 'laws.FnExactVectorOf': WHATEVER THE INPUT: true; the input reads as it did. -/
def fnExactVectorOfSpec : ChangeSpec := { name := "fnExactVectorOf", fn := fun _ => fun
  | [d1, d2] => { results := [.lit (.bool true)], args := [d1, d2] }
  | _ => none }
def fnExactVectorOfRow : OpenClaim := { program := "ytcmbfgaojlnjcaa", sum := "b8f4f6db0ec7957dee473e7369e06016cdd067bb7b8ac8a1d563371094b4aad1", func := "loop.example/g00830/laws.FnExactVectorOf", spec := "fnExactVectorOf", unfollowed := true, recurses := true, apart := false }
def FnExactVectorOfSaid : Prop := fnExactVectorOfRow.holds Try.pinned (OpenSpec.ofChange fnExactVectorOfSpec)

/-- ITS FALSE NEIGHBOUR: 'it returns false'. Refute it at one input. -/
def fnExactVectorOfWrong : ChangeSpec := { name := "fnExactVectorOf", fn := fun _ => fun
  | [d1, d2] => { results := [.lit (.bool false)], args := [d1, d2] }
  | _ => none }
def FnExactVectorOfWrongFalsely : Prop := fnExactVectorOfRow.holds Try.pinned (OpenSpec.ofChange fnExactVectorOfWrong)

/-- 'laws.FnExactSquareOf': WHATEVER THE INPUT: true; the input reads as it did. -/
def fnExactSquareOfSpec : ChangeSpec := { name := "fnExactSquareOf", fn := fun _ => fun
  | [d1, d2] => { results := [.lit (.bool true)], args := [d1, d2] }
  | _ => none }
def fnExactSquareOfRow : OpenClaim := { program := "ytcmbfgaojlnjcaa", sum := "b8f4f6db0ec7957dee473e7369e06016cdd067bb7b8ac8a1d563371094b4aad1", func := "loop.example/g00830/laws.FnExactSquareOf", spec := "fnExactSquareOf", unfollowed := true, recurses := true, apart := false }
def FnExactSquareOfSaid : Prop := fnExactSquareOfRow.holds Try.pinned (OpenSpec.ofChange fnExactSquareOfSpec)

/-- ITS FALSE NEIGHBOUR: 'it returns false'. Refute it at one input. -/
def fnExactSquareOfWrong : ChangeSpec := { name := "fnExactSquareOf", fn := fun _ => fun
  | [d1, d2] => { results := [.lit (.bool false)], args := [d1, d2] }
  | _ => none }
def FnExactSquareOfWrongFalsely : Prop := fnExactSquareOfRow.holds Try.pinned (OpenSpec.ofChange fnExactSquareOfWrong)

/-- 'laws.FnExactKindName': WHATEVER THE INPUT: true; the input reads as it did. -/
def fnExactKindNameSpec : ChangeSpec := { name := "fnExactKindName", fn := fun _ => fun
  | [d] => { results := [.lit (.bool true)], args := [d] }
  | _ => none }
def fnExactKindNameRow : OpenClaim := { program := "ytcmbfgaojlnjcaa", sum := "b8f4f6db0ec7957dee473e7369e06016cdd067bb7b8ac8a1d563371094b4aad1", func := "loop.example/g00830/laws.FnExactKindName", spec := "fnExactKindName", apart := false }
def FnExactKindNameSaid : Prop := fnExactKindNameRow.holds Try.pinned (OpenSpec.ofChange fnExactKindNameSpec)

/-- ITS FALSE NEIGHBOUR: 'it returns false'. Refute it at one input. -/
def fnExactKindNameWrong : ChangeSpec := { name := "fnExactKindName", fn := fun _ => fun
  | [d] => { results := [.lit (.bool false)], args := [d] }
  | _ => none }
def FnExactKindNameWrongFalsely : Prop := fnExactKindNameRow.holds Try.pinned (OpenSpec.ofChange fnExactKindNameWrong)

/-- 'laws.FnExactWithoutMembers': WHATEVER THE INPUT: true; the input reads as it did. -/
def fnExactWithoutMembersSpec : ChangeSpec := { name := "fnExactWithoutMembers", fn := fun _ => fun
  | [d1, d2] => { results := [.lit (.bool true)], args := [d1, d2] }
  | _ => none }
def fnExactWithoutMembersRow : OpenClaim := { program := "ytcmbfgaojlnjcaa", sum := "b8f4f6db0ec7957dee473e7369e06016cdd067bb7b8ac8a1d563371094b4aad1", func := "loop.example/g00830/laws.FnExactWithoutMembers", spec := "fnExactWithoutMembers", apart := false }
def FnExactWithoutMembersSaid : Prop := fnExactWithoutMembersRow.holds Try.pinned (OpenSpec.ofChange fnExactWithoutMembersSpec)

/-- ITS FALSE NEIGHBOUR: 'it returns false'. Refute it at one input. -/
def fnExactWithoutMembersWrong : ChangeSpec := { name := "fnExactWithoutMembers", fn := fun _ => fun
  | [d1, d2] => { results := [.lit (.bool false)], args := [d1, d2] }
  | _ => none }
def FnExactWithoutMembersWrongFalsely : Prop := fnExactWithoutMembersRow.holds Try.pinned (OpenSpec.ofChange fnExactWithoutMembersWrong)

/-- 'laws.FnExactSameStructures': WHATEVER THE INPUT: true; the input reads as it did. -/
def fnExactSameStructuresSpec : ChangeSpec := { name := "fnExactSameStructures", fn := fun _ => fun
  | [d1, d2] => { results := [.lit (.bool true)], args := [d1, d2] }
  | _ => none }
def fnExactSameStructuresRow : OpenClaim := { program := "ytcmbfgaojlnjcaa", sum := "b8f4f6db0ec7957dee473e7369e06016cdd067bb7b8ac8a1d563371094b4aad1", func := "loop.example/g00830/laws.FnExactSameStructures", spec := "fnExactSameStructures", apart := false }
def FnExactSameStructuresSaid : Prop := fnExactSameStructuresRow.holds Try.pinned (OpenSpec.ofChange fnExactSameStructuresSpec)

/-- ITS FALSE NEIGHBOUR: 'it returns false'. Refute it at one input. -/
def fnExactSameStructuresWrong : ChangeSpec := { name := "fnExactSameStructures", fn := fun _ => fun
  | [d1, d2] => { results := [.lit (.bool false)], args := [d1, d2] }
  | _ => none }
def FnExactSameStructuresWrongFalsely : Prop := fnExactSameStructuresRow.holds Try.pinned (OpenSpec.ofChange fnExactSameStructuresWrong)

/- THE SECOND FORM. 'bulk': how many values and letters a reading holds, each counted each time it is reached (what is shared counts as often as it is met; a slice's spare places count too). A statement '..UptoSaid' is the law's where the arguments, and the package variables that the reading takes, are together of bulk at most 1048576: NARROWER than '..Said'. Prove '..Said' where nothing that the law and all that it calls make is longer than what came in: it says more and counts as full. Else prove '..UptoSaid'. A law counts once. -/
mutual
def uptoBulk {H : Type} : DataW H → Nat
  | .lit (.string bytes) => bytes.length + 1
  | .lit _ => 1
  | .nil => 1
  | .ptr d => uptoBulk d + 1
  | .slice elems spare => uptoBulkAll elems + uptoBulkAll spare + 1
  | .agg parts => uptoBulkAll parts + 1
  | .iface _ d => uptoBulk d + 1
  | .map entries => uptoBulkEntries entries + 1
  | .held _ => 1
def uptoBulkAll {H : Type} : List (DataW H) → Nat
  | [] => 0
  | d :: r => uptoBulk d + uptoBulkAll r
def uptoBulkEntries {H : Type} : List (Lit × DataW H) → Nat
  | [] => 0
  | x :: r => uptoBulkEntry x + uptoBulkEntries r
def uptoBulkEntry {H : Type} : Lit × DataW H → Nat
  | (.string bytes, d) => bytes.length + uptoBulk d + 1
  | (_, d) => uptoBulk d + 1
 end
def uptoSmall : (H : Type) → List (DataW H) → Bool := fun _ ds => decide (uptoBulkAll ds ≤ 1048576)
def OpenSpec.upto (s : _root_.Go.ChangeSpec) : _root_.Go.OpenSpec := { _root_.Go.OpenSpec.ofChange s with cond := some uptoSmall }

/-- 'laws.FnExactFarkasProgram', WHERE WHAT IT READS IS OF BULK AT MOST 1048576: true; the input reads as it did. -/
def fnExactFarkasProgramUptoRow : OpenClaim := { program := "ytcmbfgaojlnjcaa", sum := "b8f4f6db0ec7957dee473e7369e06016cdd067bb7b8ac8a1d563371094b4aad1", func := "loop.example/g00830/laws.FnExactFarkasProgram", spec := "fnExactFarkasProgram", unfollowed := true, recurses := true, apart := false, narrowed := true }
def FnExactFarkasProgramUptoSaid : Prop := fnExactFarkasProgramUptoRow.holds Try.pinned (OpenSpec.upto fnExactFarkasProgramSpec)

/-- 'laws.FnExactDualProgram', WHERE WHAT IT READS IS OF BULK AT MOST 1048576: true; the input reads as it did. -/
def fnExactDualProgramUptoRow : OpenClaim := { program := "ytcmbfgaojlnjcaa", sum := "b8f4f6db0ec7957dee473e7369e06016cdd067bb7b8ac8a1d563371094b4aad1", func := "loop.example/g00830/laws.FnExactDualProgram", spec := "fnExactDualProgram", unfollowed := true, recurses := true, apart := false, narrowed := true }
def FnExactDualProgramUptoSaid : Prop := fnExactDualProgramUptoRow.holds Try.pinned (OpenSpec.upto fnExactDualProgramSpec)

/-- 'laws.FnExactJointOk', WHERE WHAT IT READS IS OF BULK AT MOST 1048576: true; the input reads as it did. -/
def fnExactJointOkUptoRow : OpenClaim := { program := "ytcmbfgaojlnjcaa", sum := "b8f4f6db0ec7957dee473e7369e06016cdd067bb7b8ac8a1d563371094b4aad1", func := "loop.example/g00830/laws.FnExactJointOk", spec := "fnExactJointOk", apart := false, narrowed := true }
def FnExactJointOkUptoSaid : Prop := fnExactJointOkUptoRow.holds Try.pinned (OpenSpec.upto fnExactJointOkSpec)

/-- 'laws.FnExactStructureOk', WHERE WHAT IT READS IS OF BULK AT MOST 1048576: true; the input reads as it did. -/
def fnExactStructureOkUptoRow : OpenClaim := { program := "ytcmbfgaojlnjcaa", sum := "b8f4f6db0ec7957dee473e7369e06016cdd067bb7b8ac8a1d563371094b4aad1", func := "loop.example/g00830/laws.FnExactStructureOk", spec := "fnExactStructureOk", unfollowed := true, recurses := true, apart := false, narrowed := true }
def FnExactStructureOkUptoSaid : Prop := fnExactStructureOkUptoRow.holds Try.pinned (OpenSpec.upto fnExactStructureOkSpec)

/-- 'laws.FnExactFreeJoints', WHERE WHAT IT READS IS OF BULK AT MOST 1048576: true; the input reads as it did. -/
def fnExactFreeJointsUptoRow : OpenClaim := { program := "ytcmbfgaojlnjcaa", sum := "b8f4f6db0ec7957dee473e7369e06016cdd067bb7b8ac8a1d563371094b4aad1", func := "loop.example/g00830/laws.FnExactFreeJoints", spec := "fnExactFreeJoints", unfollowed := true, recurses := true, apart := false, narrowed := true }
def FnExactFreeJointsUptoSaid : Prop := fnExactFreeJointsUptoRow.holds Try.pinned (OpenSpec.upto fnExactFreeJointsSpec)

/-- 'laws.FnExactJointNamed', WHERE WHAT IT READS IS OF BULK AT MOST 1048576: true; the input reads as it did. -/
def fnExactJointNamedUptoRow : OpenClaim := { program := "ytcmbfgaojlnjcaa", sum := "b8f4f6db0ec7957dee473e7369e06016cdd067bb7b8ac8a1d563371094b4aad1", func := "loop.example/g00830/laws.FnExactJointNamed", spec := "fnExactJointNamed", unfollowed := true, recurses := true, apart := false, narrowed := true }
def FnExactJointNamedUptoSaid : Prop := fnExactJointNamedUptoRow.holds Try.pinned (OpenSpec.upto fnExactJointNamedSpec)

/-- 'laws.FnExactVectorOf', WHERE WHAT IT READS IS OF BULK AT MOST 1048576: true; the input reads as it did. -/
def fnExactVectorOfUptoRow : OpenClaim := { program := "ytcmbfgaojlnjcaa", sum := "b8f4f6db0ec7957dee473e7369e06016cdd067bb7b8ac8a1d563371094b4aad1", func := "loop.example/g00830/laws.FnExactVectorOf", spec := "fnExactVectorOf", unfollowed := true, recurses := true, apart := false, narrowed := true }
def FnExactVectorOfUptoSaid : Prop := fnExactVectorOfUptoRow.holds Try.pinned (OpenSpec.upto fnExactVectorOfSpec)

/-- 'laws.FnExactSquareOf', WHERE WHAT IT READS IS OF BULK AT MOST 1048576: true; the input reads as it did. -/
def fnExactSquareOfUptoRow : OpenClaim := { program := "ytcmbfgaojlnjcaa", sum := "b8f4f6db0ec7957dee473e7369e06016cdd067bb7b8ac8a1d563371094b4aad1", func := "loop.example/g00830/laws.FnExactSquareOf", spec := "fnExactSquareOf", unfollowed := true, recurses := true, apart := false, narrowed := true }
def FnExactSquareOfUptoSaid : Prop := fnExactSquareOfUptoRow.holds Try.pinned (OpenSpec.upto fnExactSquareOfSpec)

/-- 'laws.FnExactKindName', WHERE WHAT IT READS IS OF BULK AT MOST 1048576: true; the input reads as it did. -/
def fnExactKindNameUptoRow : OpenClaim := { program := "ytcmbfgaojlnjcaa", sum := "b8f4f6db0ec7957dee473e7369e06016cdd067bb7b8ac8a1d563371094b4aad1", func := "loop.example/g00830/laws.FnExactKindName", spec := "fnExactKindName", apart := false, narrowed := true }
def FnExactKindNameUptoSaid : Prop := fnExactKindNameUptoRow.holds Try.pinned (OpenSpec.upto fnExactKindNameSpec)

/-- 'laws.FnExactWithoutMembers', WHERE WHAT IT READS IS OF BULK AT MOST 1048576: true; the input reads as it did. -/
def fnExactWithoutMembersUptoRow : OpenClaim := { program := "ytcmbfgaojlnjcaa", sum := "b8f4f6db0ec7957dee473e7369e06016cdd067bb7b8ac8a1d563371094b4aad1", func := "loop.example/g00830/laws.FnExactWithoutMembers", spec := "fnExactWithoutMembers", apart := false, narrowed := true }
def FnExactWithoutMembersUptoSaid : Prop := fnExactWithoutMembersUptoRow.holds Try.pinned (OpenSpec.upto fnExactWithoutMembersSpec)

/-- 'laws.FnExactSameStructures', WHERE WHAT IT READS IS OF BULK AT MOST 1048576: true; the input reads as it did. -/
def fnExactSameStructuresUptoRow : OpenClaim := { program := "ytcmbfgaojlnjcaa", sum := "b8f4f6db0ec7957dee473e7369e06016cdd067bb7b8ac8a1d563371094b4aad1", func := "loop.example/g00830/laws.FnExactSameStructures", spec := "fnExactSameStructures", apart := false, narrowed := true }
def FnExactSameStructuresUptoSaid : Prop := fnExactSameStructuresUptoRow.holds Try.pinned (OpenSpec.upto fnExactSameStructuresSpec)

end Rows
end Go.Proofs.Ytcmbfgaojlnjcaa
