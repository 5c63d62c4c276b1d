/- Contracts of the model's big integers: valid or not, from and to int, the negative. -/
import Derived.Test.YtbfanjalinkmhaaDoorBigS
namespace Go.Proofs.YtbfanjalinkmhaaDoor
set_option maxRecDepth 100000
open Go.RowKit

def BOkEnd (g : Bool) (xs : List Int) (e : Ending) : Prop := ∃ b, e = .returned (.bool b) ∧ BigIntOkIs g xs b
set_option maxHeartbeats 400000 in
theorem spec_bigOk' (g : Bool) (A : Option Addr) (n c : Nat) (xs : List Int) (w : World) (h : InI w A n xs) :
    Calls Tryd.prog 22 #[.agg #[.bool g, .slice A n c]] w fun e w' => BOkEnd g xs e ∧ Below w.heap.size w w' := by
  have H := Lib.hid h
  have hn := h.2.1
  clear h
  have con := fun (x : Value) (t : TypeId) => spec_natOk' A n c xs (w.alloc (.cells #[.bool g, x] t)) (H.out.below ((Below.refl _ _).alloc (Nat.le_refl _) _))
  have Con := Lib.hid con
  clear con
  have HF0 := Lib.hid (fun b (hb : NatOkIs xs b) => bigOk_mk (g := g) hb H.out.1)
  by_cases h0 : 0 < n
  all_goals
    cases g
    all_goals
      go_enter Tryd.func22, Tryd.ntmps22
      go_wp2_with fail
      refine (Con.out _ _).mono ?_
      rintro e w1 ⟨⟨b, rfl, hb⟩, rfl⟩
      have HF := Lib.hid (HF0.out _ hb)
      clear hb
      cases b
      all_goals
        go_wp2_with fail
        go_ret
        exact ⟨⟨_, rfl, by have := HF.out; simpa [h0] using this⟩, (Below.refl _ _).alloc (Nat.le_refl _) _⟩
theorem spec_bigIntOk (g : Bool) (A : Option Addr) (n c : Nat) (xs : List Int) (w : World) (h : InI w A n xs) (_hR : Room A n c) :
    Calls Tryd.prog 22 #[.agg #[.bool g, .slice A n c]] w fun e w' => ∃ b, e = .returned (.bool b) ∧ BigIntOkIs g xs b ∧ Below w.heap.size w w' :=
  (spec_bigOk' g A n c xs w h).mono fun _ _ ⟨⟨b, he, hi⟩, hw⟩ => ⟨b, he, hi, hw⟩

/-- What a function that hands back a big integer ends in. -/
def BigEnd (Q : Bool → List Int → Prop) (w w' : World) (e : Ending) : Prop := ∃ g r v, e = .returned (.agg #[.bool g, v]) ∧ Q g r ∧ ResI w w' v r ∧ Below w.heap.size w w'
theorem bigEnd_zero {Q : Bool → List Int → Prop} {w w' : World} (h : Q false []) (hb : Below w.heap.size w w') : BigEnd Q w w' (.returned (.agg #[.bool false, .slice none 0 0])) :=
  ⟨false, [], _, rfl, h, ⟨by simp, World.ownsRow_nil _ _ _ _⟩, hb⟩

def BToIntEnd (g : Bool) (xs : List Int) (e : Ending) : Prop := ∃ v b, e = .returned (.tuple #[.int .i64 v, .bool b]) ∧ BigIntToIntIs g xs v b

end Go.Proofs.YtbfanjalinkmhaaDoor
