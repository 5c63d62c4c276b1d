/- Contracts of the program's long division: a list times one limb and over one limb, a sum in place. -/
import Derived.Test.YtjjbgpgpacopjaaDoorIm4
namespace Go.Proofs.YtjjbgpgpacopjaaDoor
open Go.RowKit

theorem Reads.grown {w w' : World} {A : Option Addr} {xs : List Value} {g : Nat} (h : Reads w A xs) (hg : w.grownBy w' (some g)) (hne : ∀ b o, A = some ⟨b, o, none⟩ → b ≠ g) : Reads w' A xs := by
  rcases h with rfl | ⟨b, o, rfl, hb, hc⟩
  · exact .inl rfl
  · exact .inr ⟨b, o, rfl, by have := hg.size; omega, fun j hj => (World.cell?_of_block (a := ⟨b, o + j, none⟩) (hg.block b hb (fun e => hne b o rfl (by simpa using e)))).trans (hc j hj)⟩
theorem map_append_set (P X : List Int) (i : Nat) (d : Int) : ((P ++ X).map (Value.int .i64)).set (P.length + i) (.int .i64 d) = ((P ++ X.set i d).map (.int .i64)) := by
  rw [map_set_int, List.set_append_right _ _ (by omega), Nat.add_sub_cancel_left]
theorem map_append_get (P X : List Int) (i : Nat) (h : i < X.length) : ((P ++ X).map (Value.int .i64))[P.length + i]? = some (.int .i64 X[i]) := by
  rw [List.getElem?_map, List.getElem?_append_right (by omega), Nat.add_sub_cancel_left, List.getElem?_eq_getElem h]; rfl

theorem tmod_floor (n : Int) : ((n.tmod 1000000000) + 1000000000).tmod 1000000000 = n % 1000000000 := by
  by_cases h : 0 ≤ n
  · rw [Int.tmod_eq_emod_of_nonneg h, Int.tmod_eq_emod_of_nonneg (by omega)]; omega
  · obtain ⟨k, rfl⟩ : ∃ k, n = -k := ⟨-n, by omega⟩
    rw [Int.neg_tmod, Int.tmod_eq_emod_of_nonneg (show 0 ≤ k by omega), Int.tmod_eq_emod_of_nonneg (by omega)]; omega
theorem tmod_bd (n : Int) : -1000000000 < n.tmod 1000000000 ∧ n.tmod 1000000000 < 1000000000 := by
  by_cases h : 0 ≤ n
  · rw [Int.tmod_eq_emod_of_nonneg h]; omega
  · obtain ⟨k, rfl⟩ : ∃ k, n = -k := ⟨-n, by omega⟩
    rw [Int.neg_tmod, Int.tmod_eq_emod_of_nonneg (show 0 ≤ k by omega)]; omega

/-- What a product with one limb ends in: the whole list, in memory of its own. -/
def TimesEnd (t : Int) (L : Nat) (w w' : World) (e : Ending) : Prop := ∃ r g, e = .returned (.slice (some ⟨g, 0, none⟩) L L) ∧ g = w.heap.size ∧ r.length = L ∧ InR r ∧ val r = t ∧ w'.ownsRow w.heap.size 3 1 (.slice (some ⟨g, 0, none⟩) L L) L (r.map (.int .i64)) ∧ Below w.heap.size w w'

/-- What a quotient by one limb ends in. -/
def OverEnd (t d : Int) (B : Nat) (w w' : World) (e : Ending) : Prop := ∃ r A c rest, e = .returned (.slice A r.length c) ∧ Canon r ∧ val r * d + rest = t ∧ 0 ≤ rest ∧ rest < d ∧ r.length ≤ B ∧ w'.ownsRow w.heap.size 3 1 (.slice A r.length c) r.length (r.map (.int .i64)) ∧ Below w.heap.size w w'

/-- What a sum in place ends in. -/
def PlusEnd (g N c : Nat) (P X ds : List Int) (n base : Nat) (w w' : World) (e : Ending) : Prop :=
  ∃ cy X', e = .returned (.int .i64 cy) ∧ 0 ≤ cy ∧ cy ≤ 1 ∧ X'.length = X.length ∧ X'.drop n = X.drop n ∧ InR (X'.take n) ∧ val X' + pw n * cy = val X + val ds ∧ w'.ownsRow base 3 1 (.slice (some ⟨g, 0, none⟩) N c) N ((P ++ X').map (.int .i64)) ∧ w.grownBy w' (some g)
/-- A sum in place under way. -/
def PlusMem (g N c : Nat) (P X ds : List Int) (n base : Nat) (w wr : World) (i : Nat) (cy : Int) (X' : List Int) : Prop :=
  PlusAt (val X) ds n i cy X' ∧ X'.length = X.length ∧ X'.drop n = X.drop n ∧ wr.ownsRow base 3 1 (.slice (some ⟨g, 0, none⟩) N c) N ((P ++ X').map (.int .i64)) ∧ w.grownBy wr (some g)
end Go.Proofs.YtjjbgpgpacopjaaDoor
