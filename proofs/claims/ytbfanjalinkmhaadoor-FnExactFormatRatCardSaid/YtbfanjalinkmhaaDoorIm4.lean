/- Contracts of the program's natural numbers: differences, products. -/
import Derived.Test.YtbfanjalinkmhaaDoorIm3
import Derived.IntWalk
namespace Go.Proofs.YtbfanjalinkmhaaDoor
set_option maxRecDepth 100000
open Go.RowKit

theorem Reads.drewN {w : World} {A : Option Addr} {xs : List Value} (h : Reads w A xs) (n : Nat) : Reads (w.drewN n) A xs := h
theorem own_drewN {w : World} {base : Nat} {E : TypeId} {size n : Nat} {v : Value} {xs : List Value} (h : w.ownsRow base E size v n xs) (m : Nat) : (w.drewN m).ownsRow base E size v n xs := h

end Go.Proofs.YtbfanjalinkmhaaDoor
