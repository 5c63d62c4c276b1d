/- Contracts of the model's big integers. -/
import Derived.Test.YtjjbgpgpacopjaaDoorBig
import Derived.Test.YtjjbgpgpacopjaaDoorBigMem
import Derived.Test.YtjjbgpgpacopjaaDoorApp
import Derived.Test.YtjjbgpgpacopjaaDoorNat4
import Derived.Test.YtjjbgpgpacopjaaDoorNat6
namespace Go.Proofs.YtjjbgpgpacopjaaDoor
open Go.RowKit

/-- There is room for what a slice holds. -/
def Room (A : Option Addr) (n c : Nat) : Prop := n ≤ c ∧ (A = none → c = 0)
theorem room_own {w : World} {base : Nat} {E : TypeId} {size n c : Nat} {A : Option Addr} {xs : List Value} (h : w.ownsRow base E size (.slice A n c) n xs) : Room A n c := by
  refine ⟨(own_cap h).1, ?_⟩
  rintro rfl
  rcases h.2 with ⟨hv, _⟩ | ⟨g, cap, cur, hv, _⟩
  · cases hv; rfl
  · cases hv
/-- What a cut list reads as. -/
theorem CapEnd.reads {w : World} {A : Option Addr} {c : Nat} {xs : List Int} {e : Ending} (h : CapEnd xs A c e) (hr : InR xs) (ho : Reads w A (xs.map (.int .i64))) :
    ∃ l m B d, e = .returned (.slice B m d) ∧ Canon l ∧ val l = val xs ∧ (cap l).length = m ∧ m ≤ 60 ∧ Reads w B ((cap l).map (.int .i64)) := by
  obtain ⟨m, ht, h⟩ := h
  obtain ⟨hc, hv⟩ := ht.canon hr
  have hlm : (xs.take m).length = m := by have := ht.1; simp; omega
  rcases h with ⟨hm, rfl⟩ | ⟨hm, rfl⟩
  · have e : cap (xs.take m) = [] := by unfold cap; rw [if_pos (by omega)]
    exact ⟨xs.take m, 0, none, 0, rfl, hc, hv, by rw [e]; rfl, by omega, by rw [e]; exact .inl rfl⟩
  · have e : cap (xs.take m) = xs.take m := by unfold cap; rw [if_neg (by omega)]
    refine ⟨xs.take m, m, A, c, rfl, hc, hv, by rw [e, hlm], hm, ?_⟩
    rw [e]
    rcases ho with h0 | ⟨b, o, rfl, hb, hcs⟩
    · left; rw [List.map_eq_nil_iff] at h0; subst h0; simp
    · refine .inr ⟨b, o, rfl, hb, fun j hj => ?_⟩
      have := hcs j (by simp at hj ⊢; omega)
      rw [this]; simp

/-- A sign and limbs made to a big integer. -/
def MakeEnd (neg : Bool) (t : Int) (w w' : World) (e : Ending) : Prop := ∃ r v, e = .returned (.agg #[.bool (sgn neg r), v]) ∧ (∃ l, Canon l ∧ val l = t ∧ r = cap l) ∧ ResI w w' v r ∧ Below w.heap.size w w'
end Go.Proofs.YtjjbgpgpacopjaaDoor
