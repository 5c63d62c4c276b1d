/- Contracts of vectors, by the model: made of zeros. -/
import Derived.Test.YtegclofijaoajaaGreatGV
import Derived.Test.YtegclofijaoajaaGreatGF
namespace Go.Proofs.YtegclofijaoajaaGreat
set_option maxRecDepth 100000
open Go.RowKit

end Go.Proofs.YtegclofijaoajaaGreat
namespace Go.Proofs.YtegclofijaoajaaGreat
set_option maxRecDepth 100000
open Go.RowKit

def PairEnd (rs1 rs2 : List RD) (w w' : World) (e : Ending) : Prop := ∃ b, e = .returned (.bool b) ∧ (b = true ↔ PairOk rs1 rs2) ∧ Below w.heap.size w w'
def BadEnd (ds : List Int) (w w' : World) (e : Ending) : Prop := ∃ b, e = .returned (.bool b) ∧ (b = true ↔ ds = []) ∧ Below w.heap.size w w'
def FineEnd (rs : List RD) (w w' : World) (e : Ending) : Prop := ∃ b, e = .returned (.bool b) ∧ (b = true ↔ ∀ r ∈ rs, r.ok) ∧ Below w.heap.size w w'
def DoneEnd (A : Option Addr) (n c : Nat) (rs : List RD) (w w' : World) (e : Ending) : Prop :=
  (((∀ r ∈ rs, r.ok) ∧ e = .returned (.tuple #[.slice A n c, .bool true])) ∨ (¬ (∀ r ∈ rs, r.ok) ∧ e = .returned (.tuple #[.slice none 0 0, .bool false]))) ∧ Below w.heap.size w w'
end Go.Proofs.YtegclofijaoajaaGreat
namespace Go.Proofs.YtegclofijaoajaaGreat
set_option maxRecDepth 100000
open Go.RowKit

end Go.Proofs.YtegclofijaoajaaGreat
namespace Go.Proofs.YtegclofijaoajaaGreat
set_option maxRecDepth 100000
open Go.RowKit

def EqualVectorsIs (a b : List RD) (q : Bool) : Prop := q = true ↔ a = b
def EqVEnd (rs1 rs2 : List RD) (w w' : World) (e : Ending) : Prop := ∃ b, e = .returned (.bool b) ∧ EqualVectorsIs rs1 rs2 b ∧ Below w.heap.size w w'
end Go.Proofs.YtegclofijaoajaaGreat
namespace Go.Proofs.YtegclofijaoajaaGreat
set_option maxRecDepth 100000
open Go.RowKit

end Go.Proofs.YtegclofijaoajaaGreat
