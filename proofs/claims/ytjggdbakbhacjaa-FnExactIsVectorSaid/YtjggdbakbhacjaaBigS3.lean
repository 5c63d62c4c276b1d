/- Contracts of the model's big integers: comparison, floor division. -/
import Derived.Test.YtjggdbakbhacjaaBigS2
namespace Go.Proofs.Ytjggdbakbhacjaa
set_option maxRecDepth 100000
open Go.RowKit


def BCmpEnd (g1 : Bool) (xs : List Int) (g2 : Bool) (ys : List Int) (w w' : World) (e : Ending) : Prop := ∃ r, e = .returned (.int .i64 r) ∧ BigIntCmpIs g1 xs g2 ys r ∧ Below w.heap.size w w'
theorem bcmp_no {g1 g2 : Bool} {xs ys : List Int} {w w' : World} (h : ¬ (BOk g1 xs ∧ BOk g2 ys)) (hb : Below w.heap.size w w') : BCmpEnd g1 xs g2 ys w w' (.returned (.int .i64 0)) := ⟨0, rfl, .inr ⟨h, rfl⟩, hb⟩
theorem bcmp_yes {g1 g2 : Bool} {xs ys : List Int} {w w' : World} {r : Int} (h1 : BOk g1 xs) (h2 : BOk g2 ys) (hr : r = cmpV (bval g1 xs) (bval g2 ys)) (hb : Below w.heap.size w w') : BCmpEnd g1 xs g2 ys w w' (.returned (.int .i64 r)) := ⟨r, rfl, .inl ⟨⟨h1, h2⟩, hr⟩, hb⟩
end Go.Proofs.Ytjggdbakbhacjaa
