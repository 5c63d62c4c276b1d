/- Contracts of the model's natural numbers: the way back to int; division by one limb. -/
import Derived.Test.YtjjbgpgpacopjaaDoorNat3
namespace Go.Proofs.YtjjbgpgpacopjaaDoor
open Go.RowKit

/-- What NatToInt returns. -/
def NatToIntIs (a : List Int) (v : Int) (b : Bool) : Prop := (b = true ∧ Ok a ∧ val a ≤ 9223372036854775807 ∧ v = val a) ∨ (b = false ∧ v = 0 ∧ ¬ (Ok a ∧ val a ≤ 9223372036854775807))
theorem natToInt_unique {a : List Int} {v v' : Int} {b b' : Bool} (h : NatToIntIs a v b) (h' : NatToIntIs a v' b') : v = v' ∧ b = b' := by
  rcases h with ⟨rfl, h1, h2, rfl⟩ | ⟨rfl, rfl, h1⟩ <;> rcases h' with ⟨rfl, h3, h4, rfl⟩ | ⟨rfl, rfl, h3⟩
  · exact ⟨rfl, rfl⟩
  · exact absurd ⟨h1, h2⟩ h3
  · exact absurd ⟨h3, h4⟩ h1
  · exact ⟨rfl, rfl⟩
/-- What NatToInt ends in. -/
def ToIntEnd (xs : List Int) (e : Ending) : Prop := ∃ v b, e = .returned (.tuple #[.int .i64 v, .bool b]) ∧ NatToIntIs xs v b
def maxI : List Int := [854775807, 223372036, 9]
theorem maxI_canon : Canon maxI := ⟨by intro d hd; simp [maxI] at hd; omega, by decide⟩
theorem maxI_val : val maxI = 9223372036854775807 := by decide

/-- What a division by one limb ends in. -/
def SmallEnd (t d : Int) (B : Nat) (w w' : World) (e : Ending) : Prop := ∃ r A c rest, e = .returned (.tuple #[.slice A r.length c, .int .i64 rest]) ∧ Canon r ∧ val r * d + rest = t ∧ 0 ≤ rest ∧ rest < d ∧ r.length ≤ B ∧ w'.ownsRow w.heap.size 3 1 (.slice A r.length c) r.length (r.map (.int .i64)) ∧ Below w.heap.size w w'
end Go.Proofs.YtjjbgpgpacopjaaDoor
