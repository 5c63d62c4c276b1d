/- Contracts of vectors, by the model: made of zeros. -/
import Derived.Test.YtjggdbakbhacjaaDoorGV
import Derived.Test.YtjggdbakbhacjaaDoorGF
namespace Go.Proofs.YtjggdbakbhacjaaDoor
set_option maxRecDepth 100000
open Go.RowKit

end Go.Proofs.YtjggdbakbhacjaaDoor
namespace Go.Proofs.YtjggdbakbhacjaaDoor
set_option maxRecDepth 100000
open Go.RowKit

def PairEnd (rs1 rs2 : List RD) (w w' : World) (e : Ending) : Prop := ∃ b, e = .returned (.bool b) ∧ (b = true ↔ PairOk rs1 rs2) ∧ Below w.heap.size w w'
def BadEnd (ds : List Int) (w w' : World) (e : Ending) : Prop := ∃ b, e = .returned (.bool b) ∧ (b = true ↔ ds = []) ∧ Below w.heap.size w w'
def FineEnd (rs : List RD) (w w' : World) (e : Ending) : Prop := ∃ b, e = .returned (.bool b) ∧ (b = true ↔ ∀ r ∈ rs, r.ok) ∧ Below w.heap.size w w'
theorem good_nil {r : RD} (h : r.ok ∨ r = RD.zero) : r.ds = [] ↔ ¬ r.ok := by
  rcases h with h | rfl
  · refine ⟨fun e => ?_, fun hn => absurd h hn⟩
    have h4 := h.2.2.1
    rw [e] at h4
    simp [val] at h4
  · exact ⟨fun _ => RD.zero_bad, fun _ => rfl⟩
def DoneEnd (A : Option Addr) (n c : Nat) (rs : List RD) (w w' : World) (e : Ending) : Prop :=
  (((∀ r ∈ rs, r.ok) ∧ e = .returned (.tuple #[.slice A n c, .bool true])) ∨ (¬ (∀ r ∈ rs, r.ok) ∧ e = .returned (.tuple #[.slice none 0 0, .bool false]))) ∧ Below w.heap.size w w'
end Go.Proofs.YtjggdbakbhacjaaDoor
namespace Go.Proofs.YtjggdbakbhacjaaDoor
set_option maxRecDepth 100000
open Go.RowKit

end Go.Proofs.YtjggdbakbhacjaaDoor
namespace Go.Proofs.YtjggdbakbhacjaaDoor
set_option maxRecDepth 100000
open Go.RowKit

def EqualVectorsIs (a b : List RD) (q : Bool) : Prop := q = true ↔ a = b
theorem equalVectors_unique {a b : List RD} {q q' : Bool} (h : EqualVectorsIs a b q) (h' : EqualVectorsIs a b q') : q = q' := by
  unfold EqualVectorsIs at h h'
  rw [Bool.eq_iff_iff, h, h']
def EqVEnd (rs1 rs2 : List RD) (w w' : World) (e : Ending) : Prop := ∃ b, e = .returned (.bool b) ∧ EqualVectorsIs rs1 rs2 b ∧ Below w.heap.size w w'
theorem eqv_no {a b : List RD} (h : a ≠ b) : EqualVectorsIs a b false := ⟨fun k => (by cases k), fun k => absurd k h⟩
theorem eqv_yes {a b : List RD} (h : a = b) : EqualVectorsIs a b true := ⟨fun _ => h, fun _ => rfl⟩
theorem rd_eq {r s : RD} {q : Bool} (h : RatEqualIs r.g r.xs r.ds s.g s.xs s.ds q) : q = true ↔ r = s := by
  unfold RatEqualIs at h
  rw [h]
  cases r; cases s
  simp
theorem take_eq_all {a b : List RD} {n : Nat} (h : a.take n = b.take n) (ha : a.length = n) (hb : b.length = n) : a = b := by
  rwa [List.take_of_length_le (by omega), List.take_of_length_le (by omega)] at h
theorem take_eq_succ {a b : List RD} {i : Nat} {r : RD} (h : a.take i = b.take i) (ha : a[i]? = some r) (hb : b[i]? = some r) : a.take (i + 1) = b.take (i + 1) := by
  obtain ⟨h1, e1⟩ := List.getElem?_eq_some_iff.1 ha
  obtain ⟨h2, e2⟩ := List.getElem?_eq_some_iff.1 hb
  rw [List.take_succ_eq_append_getElem h1, List.take_succ_eq_append_getElem h2, h, e1, e2]
/-- One of the results stored. -/
theorem store_one {E : TypeId} {w wr w2 : World} {n i : Nat} {zs ys : List Value} {u : Value} (ho : wr.ownsRow w.heap.size E 1 (.slice (some ⟨w.heap.size, 0, none⟩) n n) n (zs.take i ++ ys.drop i)) (hb : Below w.heap.size w wr) (hb2 : Below wr.heap.size wr w2) (hi : i < n)
    (hz : zs[i]? = some u) (hy : ys.length = n) :
    (∃ old, w2.cell? ⟨w.heap.size, i, none⟩ = some old ∧ w2.frozen? ⟨w.heap.size, i, none⟩ = false) ∧ (w2.setCell ⟨w.heap.size, i, none⟩ u).ownsRow w.heap.size E 1 (.slice (some ⟨w.heap.size, 0, none⟩) n n) n (zs.take (i + 1) ++ ys.drop (i + 1)) ∧
      Below w.heap.size w (w2.setCell ⟨w.heap.size, i, none⟩ u) := by
  have ho2 := own_below ho hb2
  have hbb := hb.trans (hb2.mono hb.size)
  obtain ⟨hix, he⟩ := List.getElem?_eq_some_iff.1 hz
  have hiy : i < ys.length := by omega
  have hst := ho2.stored i u
  rw [← he, copied_set zs ys i hix hiy, he] at hst
  refine ⟨⟨_, ho2.cellAt i (by omega) |>.trans (List.getElem?_eq_getElem (by simp; omega)), ho2.frozenAt i⟩, hst.1, below_marked hbb ho2 hst.2 (Nat.le_refl _) hbb.size⟩
end Go.Proofs.YtjggdbakbhacjaaDoor
namespace Go.Proofs.YtjggdbakbhacjaaDoor
set_option maxRecDepth 100000
open Go.RowKit

end Go.Proofs.YtjggdbakbhacjaaDoor
