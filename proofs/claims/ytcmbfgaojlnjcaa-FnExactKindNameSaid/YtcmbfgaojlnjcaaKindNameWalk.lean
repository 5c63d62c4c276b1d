/- The walk of the law: for all arguments the law FnExactKindName returns true: the program's KindName answers as the model's; no condition on them. -/
import Derived.Test.YtcmbfgaojlnjcaaStK
import Derived.ProofKit
import Derived.OpenShut
import Derived.ShutString
import Derived.Lib.SmallJoins
namespace Go.Proofs.Ytcmbfgaojlnjcaa.fnExactKindName
set_option maxRecDepth 100000
open Go.ChangeShapes Go.WideShapes Go.ChangeAt Go.RowKit Go.Joins Go.Deep
open Go.ChangeMaps (open_string shut_string)

set_option maxRecDepth 100000 in
set_option maxHeartbeats 16000000 in
theorem walk {w : World} (a0 : Int) (ha0 : (Lit.int .i64 a0).wf = true) :
    Calls Try.prog 11 #[.int .i64 a0] w fun e w' => e = .returned (.bool true) ∧ Below w.heap.size w w' := by
  have Ba0 := bounds_i64 ha0
  clear ha0
  have BW0 : Hid (Below w.heap.size w w) := Below.refl _ _
  go_enter Try.func11, Try.ntmps11
  go_wp2_with fail
  refine (spec_kindName a0 _ Ba0).mono ?_
  rintro e w1 ⟨r1_0, rfl, his, hb⟩
  have BW1 := Lib.hid (BW0.out.trans (hb.mono BW0.out.size))
  have sz1 : Hid (w.heap.size ≤ w1.heap.size) := hb.size
  have IS := Lib.hid his
  clear his
  clear hb
  go_wp2_with fail
  refine (impl_kindName a0 _ Ba0).mono ?_
  rintro e w2 ⟨r2_0, rfl, his, hb⟩
  have BW2 := Lib.hid (BW1.out.trans (hb.mono BW1.out.size))
  have sz2 : Hid (w1.heap.size ≤ w2.heap.size) := hb.size
  obtain rfl := kindName_unique IS.out his
  clear his
  clear hb
  go_wp2_with fail
  go_ret
  exact ⟨rfl, BW2.out⟩
end Go.Proofs.Ytcmbfgaojlnjcaa.fnExactKindName
