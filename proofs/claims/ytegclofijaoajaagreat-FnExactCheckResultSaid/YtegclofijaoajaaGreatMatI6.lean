/- Contracts of matrices, by the program: applied to a vector. -/
import Derived.Test.YtegclofijaoajaaGreatMatI
import Derived.Test.YtegclofijaoajaaGreatMatS1
import Derived.Test.YtegclofijaoajaaGreatVecB2
namespace Go.Proofs.YtegclofijaoajaaGreat
set_option maxRecDepth 100000
open Go.RowKit

def ApplyEnd (P K : Nat) (rs vs : List RD) (base G N c o : Nat) (zs : List RD) (w w' : World) (e : Ending) : Prop :=
  ((∃ L, e = .returned (.bool true) ∧ OwnV w' base (.slice (some ⟨G, 0, none⟩) N c) N L ∧ Has L (upTo zs (o + P) N) ∧ ∀ i, i < P → (rinner (mrow K rs i) vs).ok) ∨
    (e = .returned (.bool false) ∧ ¬ ∀ i, i < P → (rinner (mrow K rs i) vs).ok)) ∧ Wrote (fun k => k = G) w w'
def ApplyB (P K : Nat) (rs vs : List RD) (base G N c o : Nat) (zs : List RD) (w' : World) (b : Bool) : Prop :=
  (b = true ∧ ∃ L, OwnV w' base (.slice (some ⟨G, 0, none⟩) N c) N L ∧ Has L (upTo zs (o + P) N) ∧ ∀ i, i < P → (rinner (mrow K rs i) vs).ok) ∨ (b = false ∧ ¬ ∀ i, i < P → (rinner (mrow K rs i) vs).ok)
theorem own_at0 {w : World} {base : Nat} {E : TypeId} {size n c g : Nat} {xs : List Value} (h : w.ownsRow base E size (.slice (some ⟨g, 0, none⟩) n c) n xs) : base ≤ g ∧ g < w.heap.size := h.lt g rfl
end Go.Proofs.YtegclofijaoajaaGreat
