/- For the laws on big integers: a struct that came in, opened; boxes beside rows that are written. -/
import Derived.Test.YtjggdbakbhacjaaBigMem
import Derived.Test.YtjggdbakbhacjaaBigS
import Derived.Lib.SmallJoins
import Derived.Deep.DeepCutAuto
namespace Go.Proofs.Ytjggdbakbhacjaa
set_option maxRecDepth 100000
open Go.RowKit Go.ChangeShapes Go.WideShapes Go.Deep

theorem InI.len {w : World} {A : Option Addr} {n : Nat} {xs : List Int} (h : InI w A n xs) : xs.length = n := h.1
theorem InI.le {w : World} {A : Option Addr} {n : Nat} {xs : List Int} (h : InI w A n xs) : n ≤ 1048576 := h.2.1
theorem InI.rd {w : World} {A : Option Addr} {n : Nat} {xs : List Int} (h : InI w A n xs) : Reads w A (xs.map (.int .i64)) := h.2.2.1
theorem InI.bd {w : World} {A : Option Addr} {n : Nat} {xs : List Int} (h : InI w A n xs) : ∀ z ∈ xs, -9223372036854775808 ≤ z ∧ z ≤ 9223372036854775807 := h.2.2.2
theorem InI.own {w w1 : World} {A B : Option Addr} {n c base : Nat} {xs : List Int} (h : InI w A n xs) (o : w1.ownsRow base 3 1 (.slice B n c) n (xs.map (.int .i64))) : InI w1 B n xs := ⟨h.1, h.2.1, Reads.of_own o, h.2.2.2⟩
theorem ne_own {w : World} {g base : Nat} {t E : TypeId} {cs : Array Value} {size n : Nat} {v : Value} {xs : List Value} (h : Box w g t cs) (o : w.ownsRow base E size v n xs) (hne : E ≠ t := by decide) : some g ≠ v.ownBlock := by
  rcases o.2 with ⟨rfl, _⟩ | ⟨g', cap, cur, rfl, _, hg, _⟩
  · simp [Value.ownBlock]
  · intro he
    have e : g = g' := by simpa [Value.ownBlock] using he
    subst e
    unfold Box at h
    rw [h] at hg
    injection hg with hg
    injection hg with _ ht
    exact hne ht.symm
theorem own_box {w : World} {g base : Nat} {t E : TypeId} {cs : Array Value} {size n : Nat} {v : Value} {xs : List Value} (o : w.ownsRow base E size v n xs) (h : Box w g t cs) (i : Nat) (u : Value) (hne : E ≠ t := by decide) : (w.setCell ⟨g, i, none⟩ u).ownsRow base E size v n xs := by
  have hk := ne_own h o hne
  refine ⟨o.1, ?_⟩
  rcases o.2 with h | ⟨g', cap, cur, rfl, h2, h3, h4⟩
  · exact .inl h
  · refine .inr ⟨g', cap, cur, rfl, h2, (Below.heap_setCell w _ u g' ?_).trans h3, h4⟩
    intro e
    exact hk (by simp [Value.ownBlock, e])
/-! For the regions that draw: a cell of a box that is known, in whatever form the world has; matched with reducible transparency alone. -/
theorem cellS {w : World} {g i : Nat} {t : TypeId} {cs : Array Value} {v : Value} (h : Hid (Box w g t cs)) (hv : Hid (cs[i]? = some v)) : w.cell? ⟨g, i, none⟩ = some v := (h.out.cell i).trans hv.out
theorem hAlloc {w : World} {g : Nat} {t : TypeId} {cs : Array Value} (h : Hid (Box w g t cs)) (o : Obj) : Hid (Box (w.alloc o) g t cs) := Lib.hid (h.out.alloc o)
theorem hDrew {w : World} {g : Nat} {t : TypeId} {cs : Array Value} (h : Hid (Box w g t cs)) : Hid (Box w.drew g t cs) := Lib.hid h.out.drew
theorem hFar {w : World} {g : Nat} {t : TypeId} {cs : Array Value} (h : Hid (Box w g t cs)) {p : Addr} (hp : g ≠ p.block) (u : Value) : Hid (Box (w.setCell p u) g t cs) := Lib.hid (h.out.far hp u)
theorem own_drew {w : World} {base : Nat} {E : TypeId} {size n : Nat} {v : Value} {xs : List Value} (h : w.ownsRow base E size v n xs) : w.drew.ownsRow base E size v n xs := h
section
variable {P : Program} {H : Type} {enc : TypeId × Value → H} {w : World} {sp : Nat → Bool} {hd : Bool}
theorem ints_cell {t e : TypeId} {v : Value} {fuel : Nat} {x : DataW H × List MemPlace} (ht : P.underlying t = some (.slice e)) (he : P.underlying e = some (.int .i64)) (hc : P.cellsOf e = 1)
    (h : DataW.trod enc P w 0 sp hd fuel t [v] = some x) : ∃ A len cap xs, v = .slice A len cap ∧ IsInts w A len xs := by
  have h' := h
  rcases Go.ChangeShapes.open_ints ht he hc h with ⟨hcs, _⟩ | ⟨a, l, c, ss, hcs, _⟩
  · obtain rfl : v = .slice none 0 0 := by simpa using hcs
    obtain ⟨xs, hx⟩ := isInts_of ht he hc (⟨fuel, by simpa [Value.cells] using h'⟩ : DataW.Trod enc P w 0 sp hd t (Value.slice none 0 0) x.1 x.2)
    exact ⟨_, _, _, xs, rfl, hx⟩
  · obtain rfl : v = .slice (some a) l c := by simpa using hcs
    obtain ⟨xs, hx⟩ := isInts_of ht he hc (⟨fuel, by simpa [Value.cells] using h'⟩ : DataW.Trod enc P w 0 sp hd t (Value.slice (some a) l c) x.1 x.2)
    exact ⟨_, _, _, xs, rfl, hx⟩
theorem open_big {r : Reach} {b0 : Nat} {t e : TypeId} {f0 f1 : Field} {v : Value} {d : DataW H} {p : List MemPlace} (hs : P.underlying t = some (.struct #[f0, f1])) (hone : oneCellFields P #[f0, f1] = true) (hC : P.cellsOf t = 2)
    (hb : P.underlying f0.type = some .bool) (hsl : P.underlying f1.type = some (.slice e)) (he : P.underlying e = some (.int .i64)) (hc : P.cellsOf e = 1)
    (hv : Value.okWide P w r b0 t v) (h : DataW.Trod enc P w 0 sp hd t v d p) : ∃ g A len cap xs, v = .agg #[.bool g, .slice A len cap] ∧ IsInts w A len xs := by
  obtain ⟨v0, v1, y0, y1, n, rfl, _, _, t0, t1⟩ := Joins.open_agg2 hs hone hC hv h
  obtain ⟨b, hb', _⟩ := DataW.trod_bool hb t0
  obtain rfl : v0 = .bool b := by simpa using hb'
  obtain ⟨A, len, cap, xs, rfl, hx⟩ := ints_cell hsl he hc t1
  exact ⟨b, A, len, cap, xs, rfl, hx⟩
end
end Go.Proofs.Ytjggdbakbhacjaa
