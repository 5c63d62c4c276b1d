/- Contracts of the program's big integers: signs, valid or not, from and to int, the negative. -/
import Derived.Test.YtbfanjalinkmhaaDoorBigS4
import Derived.Test.YtbfanjalinkmhaaDoorIm4
import Derived.Test.YtbfanjalinkmhaaDoorIm5
namespace Go.Proofs.YtbfanjalinkmhaaDoor
set_option maxRecDepth 100000
open Go.RowKit

theorem one_box {w : World} {b0 : Nat} {t : TypeId} {u0 u1 : Value} (h : Box w b0 t #[u0, u1]) : w.cell? ⟨b0, 0, none⟩ = some u0 ∧ w.cell? ⟨b0, 1, none⟩ = some u1 := ⟨h.cell 0, h.cell 1⟩
theorem box_facts {w : World} {g : Nat} {t : TypeId} {cs : Array Value} (h : Box w g t cs) : Box w g t cs ∧ w.cell? ⟨g, 0, none⟩ = cs[0]? ∧ w.cell? ⟨g, 1, none⟩ = cs[1]? ∧ w.frozen? ⟨g, 0, none⟩ = false ∧ w.frozen? ⟨g, 1, none⟩ = false := ⟨h, h.cell 0, h.cell 1, h.free 0, h.free 1⟩

/-- A sign put to limbs: the limbs stay where they lie. -/
def WithEnd (b : Bool) (base : Nat) (A : Option Addr) (n c : Nat) (xs : List Int) (w w' : World) (e : Ending) : Prop :=
  ∃ v, e = .returned (.agg #[.bool (sgn b xs), v]) ∧ (v = .slice A n c ∨ v = .slice none 0 0) ∧ w'.ownsRow base 3 1 v n (xs.map (.int .i64)) ∧ Below w.heap.size w w'

set_option maxHeartbeats 400000 in
theorem impl_bigOk' (g : Bool) (A : Option Addr) (n c : Nat) (xs : List Int) (w : World) (h : InI w A n xs) :
    Calls Tryd.prog 27 #[.agg #[.bool g, .slice A n c]] w fun e w' => BOkEnd g xs e ∧ Below w.heap.size w w' := by
  have H := Lib.hid h
  have hn := h.2.1
  clear h
  have con := fun (x : Value) (t : TypeId) => impl_natOk' A n c xs (w.alloc (.cells #[.bool g, x] t)) (H.out.below ((Below.refl _ _).alloc (Nat.le_refl _) _))
  have Con := Lib.hid con
  clear con
  have HF0 := Lib.hid (fun b (hb : NatOkIs xs b) => bigOk_mk (g := g) hb H.out.1)
  by_cases h0 : 0 < n
  all_goals
    cases g
    all_goals
      go_enter Tryd.func27, Tryd.ntmps27
      go_wp2_with fail
      refine (Con.out _ _).mono ?_
      rintro e w1 ⟨⟨b, rfl, hb⟩, rfl⟩
      have HF := Lib.hid (HF0.out _ hb)
      clear hb
      cases b
      all_goals
        go_wp2_with fail
        go_ret
        exact ⟨⟨_, rfl, by have := HF.out; simpa [h0] using this⟩, (Below.refl _ _).alloc (Nat.le_refl _) _⟩
theorem impl_bigIntOk (g : Bool) (A : Option Addr) (n c : Nat) (xs : List Int) (w : World) (h : InI w A n xs) (_hR : Room A n c) :
    Calls Tryd.prog 27 #[.agg #[.bool g, .slice A n c]] w fun e w' => ∃ b, e = .returned (.bool b) ∧ BigIntOkIs g xs b ∧ Below w.heap.size w w' :=
  (impl_bigOk' g A n c xs w h).mono fun _ _ ⟨⟨b, he, hi⟩, hw⟩ => ⟨b, he, hi, hw⟩


theorem natOf_ok {n : Int} {r : List Int} (h : NatOfIs n r) (hn : n ≤ 9223372036854775807) : Ok r := by
  refine ⟨h.1, ?_⟩
  have hp : pw 3 = 1000000000000000000000000000 := by decide
  have : r.length ≤ 3 := short_of h.1 (by rw [h.2, hp]; split <;> omega)
  omega
theorem of_pos_i {n : Int} {r : List Int} (hn : 0 ≤ n) (hn1 : n ≤ 9223372036854775807) (h : NatOfIs n r) : BigIntOfIs n (sgn false r) r := by
  have hok := natOf_ok h hn1
  exact of_pos hn h (ok_cap hok)
theorem of_neg_i {n : Int} {a b r : List Int} (hn : n < 0) (hn1 : -9223372036854775808 ≤ n) (ha : NatOfIs (-(n + 1)) a) (hb : NatOfIs 1 b) (h : NatAddIs a b r) : BigIntOfIs n (sgn true r) r := by
  obtain ⟨l, hc, hv, hr⟩ := bin_cap h ⟨natOf_ok ha (by omega), natOf_ok hb (by omega)⟩
  refine make_rep (n := true) ⟨l, hc, rfl, hr⟩ ?_ (fun _ => by simp; omega)
  have e1 := ha.2
  have e2 := hb.2
  rw [if_neg (by omega)] at e2
  rw [hv, e2, e1]; split <;> omega
theorem own_rows {w w1 : World} {v : Value} {r : List Int} (h : ResI w w1 v r) : ∃ A c, v = .slice A r.length c ∧ r.length ≤ 4194304 ∧ w1.ownsRow w.heap.size 3 1 (.slice A r.length c) r.length (r.map (.int .i64)) := by
  obtain ⟨A, c, rfl⟩ := own_slice h.2
  exact ⟨A, c, rfl, h.1, h.2⟩
end Go.Proofs.YtbfanjalinkmhaaDoor
