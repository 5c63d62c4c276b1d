/- Matrices of the call's own, changed in place: two elements exchanged; what a list in memory says of one element. -/
import Derived.Test.YtegclofijaoajaaGreatEL
import Derived.Test.YtegclofijaoajaaGreatMatI6
import Derived.Test.YtegclofijaoajaaGreatMatK
namespace Go.Proofs.YtegclofijaoajaaGreat
set_option maxRecDepth 100000
open Go.RowKit

theorem OwnV.far {w : World} {base n : Nat} {V : Value} {L : List El} (h : OwnV w base V n L) {i j : Nat} (hi : i < L.length) (hj : j < L.length) (e : i ≠ j) : Far L[i] L[j] := by
  have hp := List.pairwise_iff_getElem.1 h.2.2.2
  rcases Nat.lt_or_gt_of_ne e with h1 | h1
  · exact hp i j hi hj h1
  · exact (hp j i hj hi h1).symm
/-- What the walk asks of one element of a list of the call's own. -/
theorem OwnV.el {w : World} {base G n c i : Nat} {L : List El} (h : OwnV w base (.slice (some ⟨G, 0, none⟩) n c) n L) (hi : i < n) :
    ∃ g A k c' xs B m d ys, L[i]? = some (El.mk g (.slice A k c') k xs (.slice B m d) m ys) ∧ (w.cell? ⟨G, i * 3, none⟩ = some (.bool g) ∧ w.cell? ⟨G, i * 3 + 1, none⟩ = some (.slice A k c') ∧ w.cell? ⟨G, i * 3 + 2, none⟩ = some (.slice B m d)) ∧
      w.frozen? ⟨G, i * 3, none⟩ = false ∧ w.frozen? ⟨G, i * 3 + 1, none⟩ = false ∧ w.frozen? ⟨G, i * 3 + 2, none⟩ = false := by
  have hl : i < L.length := by rw [h.1]; exact hi
  obtain ⟨h0, h1, h2⟩ := h.cells hl
  obtain ⟨A, c', hA⟩ := own_slice (h.elem hl).1
  obtain ⟨B, d, hB⟩ := own_slice (h.elem hl).2.1
  have e : L[i] = El.mk L[i].g L[i].v L[i].n L[i].xs L[i].u L[i].m L[i].ys := rfl
  rw [hA, hB] at e
  rw [hA] at h1
  rw [hB] at h2
  exact ⟨_, A, _, c', _, B, _, d, _, by rw [List.getElem?_eq_getElem hl, e], ⟨h0, h1, h2⟩, h.frozen _, h.frozen _, h.frozen _⟩
theorem Has.get {L : List El} {rs : List RD} (h : Has L rs) {i : Nat} {e : El} (he : L[i]? = some e) : ∃ r, rs[i]? = some r ∧ e.has r := by
  obtain ⟨hl, rfl⟩ := List.getElem?_eq_some_iff.1 he
  have hr : i < rs.length := by rw [← h.length]; exact hl
  exact ⟨rs[i], List.getElem?_eq_getElem hr, h.at_ i hl hr⟩
section
variable {P : Program}
end
/-- The blocks of these elements are those of the others, or new. -/
def FootIn (w : World) (L L' : List El) : Prop := ∀ x ∈ L', ∀ k, x.foot k → (∃ y ∈ L, y.foot k) ∨ w.heap.size ≤ k
theorem FootIn.refl (w : World) (L : List El) : FootIn w L L := fun x hx _ hk => .inl ⟨x, hx, hk⟩
theorem FootIn.trans {w w' : World} {L L1 L2 : List El} (h : FootIn w L L1) (k : FootIn w' L1 L2) (hs : w.heap.size ≤ w'.heap.size) : FootIn w L L2 := fun x hx j hj => by
  rcases k x hx j hj with ⟨y, hy, hyj⟩ | h1
  · exact h y hy j hyj
  · exact .inr (Nat.le_trans hs h1)
/-- What a function leaves that changes a matrix in place. -/
def Changed (base : Nat) (G n c : Nat) (L : List El) (zs : List RD) (w w' : World) : Prop := (∃ L', OwnV w' base (.slice (some ⟨G, 0, none⟩) n c) n L' ∧ Has L' zs ∧ FootIn w L L') ∧ Wrote (fun k => k = G) w w'
def UnitEnd (Q : Prop) (e : Ending) : Prop := e = .returned (.tuple #[]) ∧ Q
end Go.Proofs.YtegclofijaoajaaGreat
