/- For the laws on fractions: a struct within a struct that came in, opened. -/
import Derived.Test.YtjggdbakbhacjaaRatMem
namespace Go.Proofs.Ytjggdbakbhacjaa
set_option maxRecDepth 100000
open Go.RowKit Go.ChangeShapes Go.WideShapes Go.Deep Go.Joins

section
variable {P : Program} {H : Type} {enc : TypeId × Value → H} {w : World} {sp : Nat → Bool} {hd : Bool}
theorem open_rat {r : Reach} {b0 : Nat} {t e : TypeId} {f0 f1 k0 k1 : Field} {v : Value} {d : DataW H} {p : List MemPlace} (hs : P.underlying t = some (.struct #[f0, f1])) (ho0 : f0.offset = 0) (ho1 : f1.offset = 2) (hC : P.cellsOf t = 3)
    (hsb : P.underlying f0.type = some (.struct #[k0, k1])) (hone : oneCellFields P #[k0, k1] = true) (hCb : P.cellsOf f0.type = 2) (hc1 : P.cellsOf f1.type = 1)
    (hb : P.underlying k0.type = some .bool) (hsl : P.underlying k1.type = some (.slice e)) (hsl1 : P.underlying f1.type = some (.slice e)) (he : P.underlying e = some (.int .i64)) (hc : P.cellsOf e = 1)
    (hv : Value.okWide P w r b0 t v) (h : DataW.Trod enc P w 0 sp hd t v d p) :
    ∃ g A len cap xs B lenb capb ys, v = .agg #[.bool g, .slice A len cap, .slice B lenb capb] ∧ IsInts w A len xs ∧ IsInts w B lenb ys := by
  obtain ⟨cs, rfl, hsz⟩ := okWide_struct hs hv
  obtain ⟨c0, c1, c2, rfl⟩ := array3 (hsz.trans hC)
  obtain ⟨fuel, hf⟩ := h
  obtain ⟨y0, y1, n, hx, _, h0, h1⟩ := trod_struct2 hs hf
  rw [ho0, hCb] at h0
  rw [ho1, hc1] at h1
  have h0' : DataW.trod enc P w 0 sp hd n f0.type [c0, c1] = some y0 := by simpa [Value.cells] using h0
  have h1' : DataW.trod enc P w 0 sp hd n f1.type [c2] = some y1 := by simpa [Value.cells] using h1
  obtain ⟨z0, z1, m, hz, _, g0, g1⟩ := trod_struct2 hsb h0'
  obtain ⟨o0, q0⟩ := hone_of hone 0 k0 rfl
  obtain ⟨o1, q1⟩ := hone_of hone 1 k1 rfl
  have g0' : DataW.trod enc P w 0 sp hd m k0.type [c0] = some z0 := by simpa [o0, q0] using g0
  have g1' : DataW.trod enc P w 0 sp hd m k1.type [c1] = some z1 := by simpa [o1, q1] using g1
  obtain ⟨b, hb', _⟩ := DataW.trod_bool hb g0'
  obtain rfl : c0 = .bool b := by simpa using hb'
  obtain ⟨A, len, cap, xs, rfl, hA⟩ := ints_cell hsl he hc g1'
  obtain ⟨B, lenb, capb, ys, rfl, hB⟩ := ints_cell hsl1 he hc h1'
  exact ⟨b, A, len, cap, xs, B, lenb, capb, ys, rfl, hA, hB⟩
end
end Go.Proofs.Ytjggdbakbhacjaa
