/- Contracts of the program's natural numbers: differences, products. -/
import Derived.Test.YteghhaefpbkjnaaDoorIm3
import Derived.IntWalk
namespace Go.Proofs.YteghhaefpbkjnaaDoor
open Go.RowKit

theorem Reads.drewN {w : World} {A : Option Addr} {xs : List Value} (h : Reads w A xs) (n : Nat) : Reads (w.drewN n) A xs := h
theorem own_drewN {w : World} {base : Nat} {E : TypeId} {size n : Nat} {v : Value} {xs : List Value} (h : w.ownsRow base E size v n xs) (m : Nat) : (w.drewN m).ownsRow base E size v n xs := h
theorem impl_limbAt_v (A : Option Addr) (n c : Nat) (xs : List Int) (k : Nat) (y : Int) (w : World) (hy : lim xs k = y) (hn : xs.length = n) (hb : n ≤ 1048576) (hr : Reads w A (xs.map (.int .i64))) :
    Calls Tryd.prog 31 #[.slice A n c, .int .i64 k] w fun e w' => e = .returned (.int .i64 y) ∧ w = w' := by
  subst hy; exact impl_limbAt A n c xs k w hn hb hr

end Go.Proofs.YteghhaefpbkjnaaDoor
