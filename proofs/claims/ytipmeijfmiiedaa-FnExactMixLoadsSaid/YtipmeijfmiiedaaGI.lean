/- Contracts of the program's natural numbers: what is one, the way from int, comparisons. -/
import Derived.Test.YtipmeijfmiiedaaGN
import Derived.IntWalk
namespace Go.Proofs.Ytipmeijfmiiedaa
set_option maxRecDepth 100000
open Go.RowKit



theorem quiet_left {P : Program} {f : FuncId} {args : Array Value} {w : World} {n : Nat} {v : Value}
    (h : Calls P f args (w.drewN n) fun e w' => e = .returned v ∧ w.drewN n = w') : Calls P f args (w.drewN n) fun e w'' => e = .returned v ∧ ∃ m, w'' = w.drewN m :=
  h.mono fun _ _ ⟨he, hm⟩ => ⟨he, n, hm.symm⟩
theorem quiet_add_left {P : Program} {f : FuncId} {args : Array Value} {w : World} {a n : Nat} {v : Value}
    (h : Calls P f args (w.drewN (a + n)) fun e w' => e = .returned v ∧ w.drewN (a + n) = w') :
    Calls P f args (w.drewN (a + n)) fun e w'' => e = .returned v ∧ ∃ m, w'' = w.drewN (a + m) :=
  h.mono fun _ _ ⟨he, hm⟩ => ⟨he, n, hm.symm⟩


end Go.Proofs.Ytipmeijfmiiedaa
namespace Go.Proofs.Ytipmeijfmiiedaa
set_option maxRecDepth 100000
open Go.RowKit





theorem maxOf_val {r : List Int} (h : NatOfIs 9223372036854775807 r) : Canon r ∧ val r = 9223372036854775807 := ⟨h.1, by rw [h.2]; rfl⟩
end Go.Proofs.Ytipmeijfmiiedaa
namespace Go.Proofs.Ytipmeijfmiiedaa
set_option maxRecDepth 100000
open Go.RowKit

/-- A sum after k places: the limbs, the carry. -/
def SumAt (xs ys : List Int) (L k : Nat) (cy : Int) (os : List Int) : Prop := os.length = L + 1 ∧ InR os ∧ val os + pw k * cy = val (xs.take k) + val (ys.take k) ∧ ZeroFrom os k ∧ 0 ≤ cy ∧ cy ≤ 1
theorem SumAt.start (xs ys : List Int) (L : Nat) : SumAt xs ys L 0 0 (List.replicate (L + 1) 0) :=
  ⟨by simp, zeros_inR _, by rw [zeros_val]; simp [val], zeros_from _ _, by omega, by omega⟩
theorem SumAt.step {xs ys os : List Int} {L k : Nat} {cy x y : Int} (h : SumAt xs ys L k cy os) (hx : lim xs k = x) (hy : lim ys k = y) (x0 : 0 ≤ x) (x1 : x ≤ 999999999) (y0 : 0 ≤ y) (y1 : y ≤ 999999999) (hk : k < L) :
    SumAt xs ys L (k + 1) ((cy + (x + y)) / 1000000000) (os.set k ((cy + (x + y)) % 1000000000)) := by
  obtain ⟨h1, h2, h3, h4, h5, h6⟩ := h
  have hio : k < os.length := by omega
  refine ⟨by simpa using h1, h2.set _ (by omega) (by omega), ?_, h4.set_last _, by omega, by omega⟩
  rw [val_set _ _ _ hio, h4 _ hio (Nat.le_refl _), val_take_succ, val_take_succ, hx, hy, pw]
  have e := Int.mul_ediv_add_emod (cy + (x + y)) 1000000000
  grind
theorem SumAt.last {xs ys os : List Int} {L : Nat} {cy : Int} (h : SumAt xs ys L L cy os) (hx : xs.length ≤ L) (hy : ys.length ≤ L) : InR (os.set L cy) ∧ val (os.set L cy) = val xs + val ys ∧ (os.set L cy).length = L + 1 := by
  obtain ⟨h1, h2, h3, h4, h5, h6⟩ := h
  rw [List.take_of_length_le hx, List.take_of_length_le hy] at h3
  refine ⟨h2.set _ h5 (by omega), ?_, by simpa using h1⟩
  rw [val_set _ _ _ (by omega), h4 _ (by omega) (Nat.le_refl _), Int.sub_zero]; exact h3
/-- A difference after k places: the limbs, what is still to be taken off. -/
def DiffAt (xs ys : List Int) (L k : Nat) (bo : Int) (os : List Int) : Prop := os.length = L ∧ InR os ∧ val os = val (xs.take k) - val (ys.take k) + pw k * bo ∧ ZeroFrom os k ∧ 0 ≤ bo ∧ bo ≤ 1
theorem DiffAt.start (xs ys : List Int) (L : Nat) : DiffAt xs ys L 0 0 (List.replicate L 0) :=
  ⟨by simp, zeros_inR _, by rw [zeros_val]; simp [val], zeros_from _ _, by omega, by omega⟩
theorem DiffAt.step0 {xs ys os : List Int} {L k : Nat} {bo x y d : Int} (h : DiffAt xs ys L k bo os) (hx : lim xs k = x) (hy : lim ys k = y) (x1 : x ≤ 999999999) (y0 : 0 ≤ y) (hk : k < L) (hd : d = x - y - bo) (d0 : 0 ≤ d) :
    DiffAt xs ys L (k + 1) 0 (os.set k d) := by
  obtain ⟨h1, h2, h3, h4, h5, h6⟩ := h
  have hio : k < os.length := by omega
  refine ⟨by simpa using h1, h2.set _ (by omega) (by omega), ?_, h4.set_last _, by omega, by omega⟩
  rw [val_set _ _ _ hio, h4 _ hio (Nat.le_refl _), val_take_succ, val_take_succ, hx, hy, hd]
  grind
theorem DiffAt.step1 {xs ys os : List Int} {L k : Nat} {bo x y d : Int} (h : DiffAt xs ys L k bo os) (hx : lim xs k = x) (hy : lim ys k = y) (x0 : 0 ≤ x) (y1 : y ≤ 999999999) (hk : k < L) (hd : d = x - y - bo) (d0 : d < 0) :
    DiffAt xs ys L (k + 1) 1 (os.set k (d + 1000000000)) := by
  obtain ⟨h1, h2, h3, h4, h5, h6⟩ := h
  have hio : k < os.length := by omega
  refine ⟨by simpa using h1, h2.set _ (by omega) (by omega), ?_, h4.set_last _, by omega, by omega⟩
  rw [val_set _ _ _ hio, h4 _ hio (Nat.le_refl _), val_take_succ, val_take_succ, hx, hy, hd, pw]
  grind
theorem DiffAt.done {xs ys os : List Int} {k : Nat} {bo : Int} (h : DiffAt xs ys k k bo os) (hx : xs.length ≤ k) (hy : ys.length ≤ k) (hle : val ys ≤ val xs) : InR os ∧ val os = val xs - val ys ∧ os.length = k := by
  obtain ⟨h1, h2, h3, h4, h5, h6⟩ := h
  rw [List.take_of_length_le hx, List.take_of_length_le hy] at h3
  have h7 := val_lt h2
  rw [h1] at h7
  have hb0 : bo = 0 := by
    by_cases e : bo = 0
    · exact e
    · have e1 : bo = 1 := by omega
      rw [e1, Int.mul_one] at h3; omega
  subst hb0
  exact ⟨h2, by rw [h3]; simp, h1⟩
/-- Trimmed and limited: what the cut list gives. -/
theorem capEnd_of {xs : List Int} {A : Option Addr} {c m : Nat} {e : Ending} (ht : Trimmed xs m) (h : (60 < m ∧ e = .returned (.slice none 0 0)) ∨ (m ≤ 60 ∧ e = .returned (.slice A m c))) : CapEnd xs A c e := ⟨m, ht, h⟩
/-- An ending with a list of its own: what it is, where it lies. -/
def BinEnd (Q : List Int → Prop) (w w' : World) (e : Ending) : Prop := ∃ rs v, e = .returned v ∧ Q rs ∧ ResI w w' v rs ∧ Below w.heap.size w w'

end Go.Proofs.Ytipmeijfmiiedaa
namespace Go.Proofs.Ytipmeijfmiiedaa
set_option maxRecDepth 100000
open Go.RowKit

theorem Reads.drewN {w : World} {A : Option Addr} {xs : List Value} (h : Reads w A xs) (n : Nat) : Reads (w.drewN n) A xs := h
theorem own_drewN {w : World} {base : Nat} {E : TypeId} {size n : Nat} {v : Value} {xs : List Value} (h : w.ownsRow base E size v n xs) (m : Nat) : (w.drewN m).ownsRow base E size v n xs := h

end Go.Proofs.Ytipmeijfmiiedaa
namespace Go.Proofs.Ytipmeijfmiiedaa
set_option maxRecDepth 100000
open Go.RowKit

end Go.Proofs.Ytipmeijfmiiedaa
namespace Go.Proofs.Ytipmeijfmiiedaa
set_option maxRecDepth 100000
open Go.RowKit

theorem Reads.grown {w w' : World} {A : Option Addr} {xs : List Value} {g : Nat} (h : Reads w A xs) (hg : w.grownBy w' (some g)) (hne : ∀ b o, A = some ⟨b, o, none⟩ → b ≠ g) : Reads w' A xs := by
  rcases h with rfl | ⟨b, o, rfl, hb, hc⟩
  · exact .inl rfl
  · exact .inr ⟨b, o, rfl, by have := hg.size; omega, fun j hj => (World.cell?_of_block (a := ⟨b, o + j, none⟩) (hg.block b hb (fun e => hne b o rfl (by simpa using e)))).trans (hc j hj)⟩
theorem map_append_set (P X : List Int) (i : Nat) (d : Int) : ((P ++ X).map (Value.int .i64)).set (P.length + i) (.int .i64 d) = ((P ++ X.set i d).map (.int .i64)) := by
  rw [map_set_int, List.set_append_right _ _ (by omega), Nat.add_sub_cancel_left]
theorem map_append_get (P X : List Int) (i : Nat) (h : i < X.length) : ((P ++ X).map (Value.int .i64))[P.length + i]? = some (.int .i64 X[i]) := by
  rw [List.getElem?_map, List.getElem?_append_right (by omega), Nat.add_sub_cancel_left, List.getElem?_eq_getElem h]; rfl

theorem tmod_floor (n : Int) : ((n.tmod 1000000000) + 1000000000).tmod 1000000000 = n % 1000000000 := by
  by_cases h : 0 ≤ n
  · rw [Int.tmod_eq_emod_of_nonneg h, Int.tmod_eq_emod_of_nonneg (by omega)]; omega
  · obtain ⟨k, rfl⟩ : ∃ k, n = -k := ⟨-n, by omega⟩
    rw [Int.neg_tmod, Int.tmod_eq_emod_of_nonneg (show 0 ≤ k by omega), Int.tmod_eq_emod_of_nonneg (by omega)]; omega
theorem tmod_bd (n : Int) : -1000000000 < n.tmod 1000000000 ∧ n.tmod 1000000000 < 1000000000 := by
  by_cases h : 0 ≤ n
  · rw [Int.tmod_eq_emod_of_nonneg h]; omega
  · obtain ⟨k, rfl⟩ : ∃ k, n = -k := ⟨-n, by omega⟩
    rw [Int.neg_tmod, Int.tmod_eq_emod_of_nonneg (show 0 ≤ k by omega)]; omega

/-- What a product with one limb ends in: the whole list, in memory of its own. -/
def TimesEnd (t : Int) (L : Nat) (w w' : World) (e : Ending) : Prop := ∃ r g, e = .returned (.slice (some ⟨g, 0, none⟩) L L) ∧ g = w.heap.size ∧ r.length = L ∧ InR r ∧ val r = t ∧ w'.ownsRow w.heap.size 3 1 (.slice (some ⟨g, 0, none⟩) L L) L (r.map (.int .i64)) ∧ Below w.heap.size w w'

/-- What a quotient by one limb ends in. -/
def OverEnd (t d : Int) (B : Nat) (w w' : World) (e : Ending) : Prop := ∃ r A c rest, e = .returned (.slice A r.length c) ∧ Canon r ∧ val r * d + rest = t ∧ 0 ≤ rest ∧ rest < d ∧ r.length ≤ B ∧ w'.ownsRow w.heap.size 3 1 (.slice A r.length c) r.length (r.map (.int .i64)) ∧ Below w.heap.size w w'

/-- What a sum in place ends in. -/
def PlusEnd (g N c : Nat) (P X ds : List Int) (n base : Nat) (w w' : World) (e : Ending) : Prop :=
  ∃ cy X', e = .returned (.int .i64 cy) ∧ 0 ≤ cy ∧ cy ≤ 1 ∧ X'.length = X.length ∧ X'.drop n = X.drop n ∧ InR (X'.take n) ∧ val X' + pw n * cy = val X + val ds ∧ w'.ownsRow base 3 1 (.slice (some ⟨g, 0, none⟩) N c) N ((P ++ X').map (.int .i64)) ∧ w.grownBy w' (some g)
/-- A sum in place under way. -/
def PlusMem (g N c : Nat) (P X ds : List Int) (n base : Nat) (w wr : World) (i : Nat) (cy : Int) (X' : List Int) : Prop :=
  PlusAt (val X) ds n i cy X' ∧ X'.length = X.length ∧ X'.drop n = X.drop n ∧ wr.ownsRow base 3 1 (.slice (some ⟨g, 0, none⟩) N c) N ((P ++ X').map (.int .i64)) ∧ w.grownBy wr (some g)
end Go.Proofs.Ytipmeijfmiiedaa
