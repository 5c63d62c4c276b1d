/- Contracts of the model's big integers: floor division. -/
import Derived.Test.YtjggdbakbhacjaaBigS3
namespace Go.Proofs.Ytjggdbakbhacjaa
set_option maxRecDepth 100000
open Go.RowKit

theorem below_two {w W : World} {g : Nat} (hb : Below w.heap.size w W) (hg : w.heap.size ≤ g) (u0 u1 : Value) : Below w.heap.size w ((W.setCell ⟨g, 0, none⟩ u0).setCell ⟨g, 1, none⟩ u1) := (hb.setCell hg _).setCell hg _
/-- What a floor division ends in. -/
def FDivEnd (g : Bool) (xs ms : List Int) (w w' : World) (e : Ending) : Prop := ∃ h q v r u, e = .returned (.tuple #[.agg #[.bool h, v], u]) ∧ BigIntFloorDivIs g xs ms h q r ∧ ResI w w' v q ∧ ResI w w' u r ∧ Apart u v ∧ Below w.heap.size w w'
theorem fdiv_no {g : Bool} {xs ms : List Int} {w w' : World} (h : ¬ (BOk g xs ∧ Ok ms ∧ 0 < val ms)) (hb : Below w.heap.size w w') : FDivEnd g xs ms w w' (.returned (.tuple #[.agg #[.bool false, .slice none 0 0], .slice none 0 0])) :=
  ⟨false, [], _, [], _, rfl, floor_no h, ⟨by simp, World.ownsRow_nil _ _ _ _⟩, ⟨by simp, World.ownsRow_nil _ _ _ _⟩, (fun k hk => by simp [Value.ownBlock] at hk), hb⟩
/-- A slice that was there before another was made lies elsewhere. -/
theorem apart_older {w w1 : World} {base : Nat} {E E' : TypeId} {s s' n n' : Nat} {v u : Value} {xs ys : List Value} (h : w.ownsRow base E s v n xs) (k : w1.ownsRow w.heap.size E' s' u n' ys) : Apart u v := fun j hj hv => by
  have h1 := (h.lt j hv).2
  have h2 := (k.lt j hj).1
  omega
end Go.Proofs.Ytjggdbakbhacjaa
