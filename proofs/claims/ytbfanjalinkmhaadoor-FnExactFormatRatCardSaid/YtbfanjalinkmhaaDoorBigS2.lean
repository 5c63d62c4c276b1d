/- Contracts of the model's big integers: sums, differences, products. -/
import Derived.Test.YtbfanjalinkmhaaDoorBigS1
import Derived.Test.YtbfanjalinkmhaaDoorNat3
namespace Go.Proofs.YtbfanjalinkmhaaDoor
set_option maxRecDepth 100000
open Go.RowKit

/-- What two boxes hold, cell by cell. -/
theorem two_boxes {w : World} {b0 b1 : Nat} {t t' : TypeId} {u0 u1 v0 v1 : Value} (h : Box w b0 t #[u0, u1]) (k : Box w b1 t' #[v0, v1]) :
    w.cell? ⟨b0, 0, none⟩ = some u0 ∧ w.cell? ⟨b0, 1, none⟩ = some u1 ∧ w.cell? ⟨b1, 0, none⟩ = some v0 ∧ w.cell? ⟨b1, 1, none⟩ = some v1 :=
  ⟨h.cell 0, h.cell 1, k.cell 0, k.cell 1⟩
/-- An owned list on its way. -/
theorem mid_own {w w1 : World} {A : Option Addr} {c : Nat} {r : List Int} (ho : w1.ownsRow w.heap.size 3 1 (.slice A r.length c) r.length (r.map (.int .i64))) : Room A r.length c ∧ Reads w1 A (r.map (.int .i64)) := ⟨room_own ho, Reads.of_own ho⟩



end Go.Proofs.YtbfanjalinkmhaaDoor
