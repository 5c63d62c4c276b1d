/- For the laws on lists of fractions: a list that came in, opened. -/
import Derived.Test.YtjggdbakbhacjaaLaw3
import Derived.Test.YtjggdbakbhacjaaRatLaw
import Derived.Deep.Slices
namespace Go.Proofs.Ytjggdbakbhacjaa
set_option maxRecDepth 100000
open Go.RowKit Go.ChangeShapes Go.WideShapes Go.Deep Go.Joins

instance : Inhabited RD := ⟨RD.mk false [] []⟩
section
variable {P : Program} {H : Type} {enc : TypeId × Value → H} {w : World} {sp : Nat → Bool} {hd : Bool}
/-- The cells of one element, opened. -/
theorem open_rat3 {t e : TypeId} {f0 f1 k0 k1 : Field} {cs : List Value} {x : DataW H × List MemPlace} {fuel : Nat} (hs : P.underlying t = some (.struct #[f0, f1])) (ho0 : f0.offset = 0) (ho1 : f1.offset = 2) (hC : P.cellsOf t = 3)
    (hsb : P.underlying f0.type = some (.struct #[k0, k1])) (hone : oneCellFields P #[k0, k1] = true) (hCb : P.cellsOf f0.type = 2) (hc1 : P.cellsOf f1.type = 1)
    (hb : P.underlying k0.type = some .bool) (hsl : P.underlying k1.type = some (.slice e)) (hsl1 : P.underlying f1.type = some (.slice e)) (he : P.underlying e = some (.int .i64)) (hc : P.cellsOf e = 1)
    (hf : DataW.trod enc P w 0 sp hd fuel t cs = some x) :
    ∃ g A len cap xs B lenb capb ys, cs = [.bool g, .slice A len cap, .slice B lenb capb] ∧ IsInts w A len xs ∧ IsInts w B lenb ys := by
  obtain ⟨y0, y1, n, _, hl, h0, h1⟩ := trod_struct2 hs hf
  rw [hC] at hl
  match cs, hl with
  | [c0, c1, c2], _ =>
    rw [ho0, hCb] at h0
    rw [ho1, hc1] at h1
    have h0' : DataW.trod enc P w 0 sp hd n f0.type [c0, c1] = some y0 := by simpa using h0
    have h1' : DataW.trod enc P w 0 sp hd n f1.type [c2] = some y1 := by simpa using h1
    obtain ⟨z0, z1, m, _, _, g0, g1⟩ := trod_struct2 hsb h0'
    obtain ⟨o0, q0⟩ := hone_of hone 0 k0 rfl
    obtain ⟨o1, q1⟩ := hone_of hone 1 k1 rfl
    have g0' : DataW.trod enc P w 0 sp hd m k0.type [c0] = some z0 := by simpa [o0, q0] using g0
    have g1' : DataW.trod enc P w 0 sp hd m k1.type [c1] = some z1 := by simpa [o1, q1] using g1
    obtain ⟨b, hb', _⟩ := DataW.trod_bool hb g0'
    obtain rfl : c0 = .bool b := by simpa using hb'
    obtain ⟨A, len, cap, xs, rfl, hA⟩ := ints_cell hsl he hc g1'
    obtain ⟨B, lenb, capb, ys, rfl, hB⟩ := ints_cell hsl1 he hc h1'
    exact ⟨b, A, len, cap, xs, B, lenb, capb, ys, rfl, hA, hB⟩
theorem isV_of {T t e : TypeId} {f0 f1 k0 k1 : Field} {A : Option Addr} {len cap : Nat} {d : DataW H} {ps : List MemPlace} (hT : P.underlying T = some (.slice t)) (hs : P.underlying t = some (.struct #[f0, f1])) (ho0 : f0.offset = 0) (ho1 : f1.offset = 2) (hC : P.cellsOf t = 3)
    (hsb : P.underlying f0.type = some (.struct #[k0, k1])) (hone : oneCellFields P #[k0, k1] = true) (hCb : P.cellsOf f0.type = 2) (hc1 : P.cellsOf f1.type = 1)
    (hb : P.underlying k0.type = some .bool) (hsl : P.underlying k1.type = some (.slice e)) (hsl1 : P.underlying f1.type = some (.slice e)) (he : P.underlying e = some (.int .i64)) (hc : P.cellsOf e = 1)
    (h : DataW.Trod enc P w 0 sp hd T (Value.slice A len cap) d ps) : ∃ rs, IsV w A len rs := by
  obtain ⟨fuel, hf⟩ := h
  rcases open_slice hT hf with ⟨hcs, _⟩ | ⟨a, l, c, m, n, D, Pl, hcs, _, hl, hm, hmm, _, hi⟩
  · simp [Value.cells] at hcs
    obtain ⟨rfl, rfl, rfl⟩ := hcs
    exact ⟨[], rfl, Nat.zero_le _, .inl rfl⟩
  · simp [Value.cells] at hcs
    obtain ⟨rfl, rfl, rfl⟩ := hcs
    by_cases h0 : len = 0
    · subst h0; exact ⟨[], rfl, Nat.zero_le _, .inl rfl⟩
    have hle : len ≤ m := by rw [hmm]; split <;> omega
    obtain ⟨b, o, spot⟩ := a
    have hspot : spot = none := by
      obtain ⟨cs', hc', ht'⟩ := hi 0 (by omega)
      rw [hC] at hc'
      obtain ⟨_, hcl, hat⟩ := World.cells?_some hc'
      have h1 := hat 0 (by omega)
      rw [List.getElem?_eq_getElem (by omega)] at h1
      simpa [Addr.add] using World.cell?_spot h1
    subst hspot
    have hall : ∀ i, i < len → ∃ r : RD, RatIs w b (o + i * 3) r := fun i hil => by
      obtain ⟨cs', hc', ht'⟩ := hi i (by omega)
      rw [hC] at hc'
      obtain ⟨_, hcl, hat⟩ := World.cells?_some hc'
      obtain ⟨g, A, len, cap, xs, B, lenb, capb, ys, rfl, hA, hB⟩ := open_rat3 hs ho0 ho1 hC hsb hone hCb hc1 hb hsl hsl1 he hc ht'
      have e0 := hat 0 (by omega)
      have e1 := hat 1 (by omega)
      have e2 := hat 2 (by omega)
      rw [Go.Deep.add_add, Addr.add_lit] at e0 e1 e2
      exact ⟨⟨g, xs, ys⟩, A, len, cap, B, lenb, capb, e0, by rw [Nat.add_assoc]; exact e1, by rw [Nat.add_assoc]; exact e2, hA, hB⟩
    obtain ⟨r, hr⟩ := choose_lt hall
    refine ⟨(List.range len).map r, by simp, by omega, .inr ⟨b, o, rfl, ?_, fun j hj => ?_⟩⟩
    · obtain ⟨_, _, _, _, _, _, h1, _⟩ := hr 0 (by omega)
      exact World.block_lt_of_cell? _ _ h1
    · have : j < len := by simpa using hj
      simpa using hr j this
end
end Go.Proofs.Ytjggdbakbhacjaa
