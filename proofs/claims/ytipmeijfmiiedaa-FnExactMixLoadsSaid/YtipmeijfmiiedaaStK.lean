/- Joints and kinds of members: JointOk, KindName, by the program and by the model. -/
import Derived.Test.YtipmeijfmiiedaaStQ
import Derived.Test.YtipmeijfmiiedaaGA
namespace Go.Proofs.Ytipmeijfmiiedaa
set_option maxRecDepth 100000
open Go.RowKit

def kindT (k : Int) : ByteArray := if k = 1 then ⟨#[114, 111, 112, 101]⟩ else if k = 2 then ⟨#[115, 116, 114, 117, 116]⟩ else if k = 3 then ⟨#[98, 97, 114]⟩ else ⟨#[]⟩
def KindNameIs (k : Int) (r : ByteArray) : Prop := r = kindT k
theorem kindName_unique {k : Int} {r s : ByteArray} (h : KindNameIs k r) (h' : KindNameIs k s) : r = s := h.trans h'.symm
def KindEnd (k : Int) (w w' : World) (e : Ending) : Prop := ∃ r, e = .returned (.string r) ∧ KindNameIs k r ∧ Below w.heap.size w w'
set_option maxHeartbeats 800000 in
theorem impl_kindName (k : Int) (w : World) (_h : -9223372036854775808 ≤ k ∧ k ≤ 9223372036854775807) :
    Calls Try.prog 89 #[.int .i64 k] w fun e w' => KindEnd k w w' e := by
  by_cases h1 : k = 1
  · subst h1
    go_enter Try.func89, Try.ntmps89
    go_wp2_with fail
    go_ret
    exact ⟨_, rfl, rfl, Below.refl _ _⟩
  by_cases h2 : k = 2
  · subst h2
    go_enter Try.func89, Try.ntmps89
    go_wp2_with fail
    go_ret
    exact ⟨_, rfl, rfl, Below.refl _ _⟩
  by_cases h3 : k = 3
  · subst h3
    go_enter Try.func89, Try.ntmps89
    go_wp2_with fail
    go_ret
    exact ⟨_, rfl, rfl, Below.refl _ _⟩
  have e1 : (k == 1) = false := by simpa using h1
  have e2 : (k == 2) = false := by simpa using h2
  have e3 : (k == 3) = false := by simpa using h3
  have HE : Hid (KindEnd k w w (.returned (.string ⟨#[]⟩))) := ⟨_, rfl, by unfold KindNameIs kindT; rw [if_neg h1, if_neg h2, if_neg h3], Below.refl _ _⟩
  clear h1 h2 h3
  go_enter Try.func89, Try.ntmps89
  go_wp2_with fail
  go_ret
  exact HE.out
theorem l01In_yes (n lo hi : Int) (w : World) (h : lo ≤ n) (h' : n ≤ hi) : Calls Try.prog 58 #[.int .i64 n, .int .i64 lo, .int .i64 hi] w fun e w' => e = .returned (.bool true) ∧ w' = w := by
  go_enter Try.func58, Try.ntmps58
  go_wp2_with fail
  go_ret
  exact ⟨rfl, rfl⟩
theorem l01In_no (n lo hi : Int) (w : World) (h : ¬ (lo ≤ n ∧ n ≤ hi)) : Calls Try.prog 58 #[.int .i64 n, .int .i64 lo, .int .i64 hi] w fun e w' => e = .returned (.bool false) ∧ w' = w := by
  by_cases h1 : lo ≤ n
  · have h2 : ¬ n ≤ hi := fun q => h ⟨h1, q⟩
    clear h
    go_enter Try.func58, Try.ntmps58
    go_wp2_with fail
    go_ret
    exact ⟨rfl, rfl⟩
  · clear h
    go_enter Try.func58, Try.ntmps58
    go_wp2_with fail
    go_ret
    exact ⟨rfl, rfl⟩
theorem l01In_any (n lo hi : Int) (w : World) : Calls Try.prog 58 #[.int .i64 n, .int .i64 lo, .int .i64 hi] w fun e w' => e = .returned (.bool (decide (lo ≤ n ∧ n ≤ hi))) ∧ w' = w := by
  by_cases h : lo ≤ n ∧ n ≤ hi
  · rw [decide_eq_true h]; exact l01In_yes n lo hi w h.1 h.2
  · rw [decide_eq_false h]; exact l01In_no n lo hi w h
end Go.Proofs.Ytipmeijfmiiedaa
