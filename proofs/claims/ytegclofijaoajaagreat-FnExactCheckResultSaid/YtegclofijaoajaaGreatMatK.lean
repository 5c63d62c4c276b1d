/- Lists of fractions: some elements copied into another list (the builtin copy on elements of three cells). -/
import Derived.Test.YtegclofijaoajaaGreatMatC
import Derived.Laws.CopyOwn
namespace Go.Proofs.YtegclofijaoajaaGreat
set_option maxRecDepth 100000
open Go.RowKit

theorem Has.take : ∀ {L : List El} {rs : List RD} (o : Nat), Has L rs → Has (L.take o) (rs.take o)
  | [], [], _, _ => by simp [Has]
  | _ :: _, _ :: _, 0, _ => by simp [Has]
  | _ :: _, _ :: _, o + 1, h => ⟨h.1, Has.take o h.2⟩
theorem Has.drop : ∀ {L : List El} {rs : List RD} (o : Nat), Has L rs → Has (L.drop o) (rs.drop o)
  | [], [], _, _ => by simp [Has]
  | _ :: _, _ :: _, 0, h => h
  | _ :: _, _ :: _, o + 1, h => Has.drop o h.2
section
variable {P : Program}
end
end Go.Proofs.YtegclofijaoajaaGreat
