/- Contracts of the elimination, by the model: a column made 0 outside one row. -/
import Derived.Test.YtegclofijaoajaaGreatElS1
import Derived.Test.YtegclofijaoajaaGreatElI5
import Derived.IntWalk
namespace Go.Proofs.YtegclofijaoajaaGreat
set_option maxRecDepth 100000
open Go.RowKit

/-- The rows before i are done, and of row i the columns before j. -/
noncomputable def clrIn (P K : Nat) (rs : List RD) (n k i j : Nat) : List RD := mk P K fun a b => if a < i ∨ (a = i ∧ b < j) then clr K rs n k a b else cell K rs a b
section
variable {P K n k i j : Nat} {rs : List RD}
end
theorem el_below {w w' : World} {b : Nat} {e : El} (h : e.own w b) (hb : Below w.heap.size w w') : e.own w' b := h.dep fun k hk => hb.block k (h.lt k hk).2
theorem FootIn.set {w w2 : World} {L L1 : List El} {t b : Nat} {e : El} (h : FootIn w L L1) (he : e.own w2 b) (hb : w.heap.size ≤ b) : FootIn w L (L1.set t e) := fun x hx k hk => by
  rcases List.mem_or_eq_of_mem_set hx with hx | rfl
  · exact h x hx k hk
  · exact .inr (Nat.le_trans hb (he.lt k hk).1)
end Go.Proofs.YtegclofijaoajaaGreat
