/- Contracts of ParseBigInt: the model's and the program's. -/
import Derived.Test.YtkigfakfadoopaaGreatDoorGC
import Derived.Test.YtkigfakfadoopaaGreatDoorPar
namespace Go.Proofs.YtkigfakfadoopaaGreatDoor
set_option maxRecDepth 100000
open Go.RowKit

/-- Does it begin with a minus? What stands behind it. -/
def negT (s : ByteArray) : Bool := decide (s.data.toList.head? = some 45)
def bodyT (s : ByteArray) : ByteArray := if negT s = true then s.extract 1 s.size else s
def Parsed (s : ByteArray) (r : List Int) : Prop := ParseNatIs (bodyT s) r true ∧ (negT s = true → r ≠ [])
def ParseBigIntIs (s : ByteArray) (g : Bool) (r : List Int) (b : Bool) : Prop :=
  (b = true ∧ g = negT s ∧ Parsed s r) ∨ (b = false ∧ g = false ∧ r = [] ∧ ¬ ∃ q, Parsed s q)
theorem parseBigInt_unique {s : ByteArray} {g g' b b' : Bool} {r r' : List Int} (h : ParseBigIntIs s g r b) (h' : ParseBigIntIs s g' r' b') : g = g' ∧ r = r' ∧ b = b' := by
  rcases h with ⟨rfl, rfl, k⟩ | ⟨rfl, rfl, rfl, k⟩ <;> rcases h' with ⟨rfl, rfl, k'⟩ | ⟨rfl, rfl, rfl, k'⟩
  · exact ⟨rfl, (parseNat_unique k.1 k'.1).1, rfl⟩
  · exact absurd ⟨_, k⟩ k'
  · exact absurd ⟨_, k'⟩ k
  · exact ⟨rfl, rfl, rfl⟩
def ParBEnd (s : ByteArray) (w w' : World) (e : Ending) : Prop := ∃ g r v b, e = .returned (.tuple #[.agg #[.bool g, v], .bool b]) ∧ ParseBigIntIs s g r b ∧ ResI w w' v r ∧ Below w.heap.size w w'
theorem parB_no {s : ByteArray} {w w' : World} (h : ¬ ∃ q, Parsed s q) (hb : Below w.heap.size w w') : ParBEnd s w w' (.returned (.tuple #[.agg #[.bool false, .slice none 0 0], .bool false])) :=
  ⟨false, [], _, false, rfl, .inr ⟨rfl, rfl, rfl, h⟩, ⟨by simp, World.ownsRow_nil _ _ _ _⟩, hb⟩
theorem negT_nil {s : ByteArray} (h : s.size = 0) : negT s = false := by
  have : s.data.toList = [] := List.eq_nil_of_length_eq_zero (by rw [len_size]; exact h)
  unfold negT; rw [this]; rfl
theorem negT_at {s : ByteArray} (h : 0 < s.size) : negT s = decide (s[0] = 45) := by
  unfold negT; rw [head_at s h]; simp
theorem parsed_no {s : ByteArray} {r : List Int} (h : ParseNatIs (bodyT s) r false) : ¬ ∃ q, Parsed s q := fun ⟨q, hq⟩ => by
  have := (parseNat_unique h hq.1).2; cases this
theorem parsed_zero {s : ByteArray} (hn : negT s = true) (h : ParseNatIs (bodyT s) [] true) : ¬ ∃ q, Parsed s q := fun ⟨q, hq⟩ => by
  obtain ⟨rfl, _⟩ := parseNat_unique h hq.1
  exact hq.2 hn rfl
theorem pw_pow : ∀ k, pw k = ((10 ^ (9 * k) : Nat) : Int)
  | 0 => rfl
  | k + 1 => by
    rw [pw, pw_pow k, Nat.mul_add, Nat.pow_add]
    have : (10 : Nat) ^ (9 * 1) = 1000000000 := by decide
    rw [this, Int.natCast_mul, Int.mul_comm]; rfl
theorem lt_pw {l : List UInt8} (hd : l.all digB = true) (k : Nat) (h : l.length ≤ 9 * k) : ((valFrom 0 l : Nat) : Int) < pw k := by
  rw [pw_pow]
  exact Int.ofNat_lt.2 (Nat.lt_of_lt_of_le (valFrom_lt l hd) (Nat.pow_le_pow_right (by omega) h))
theorem parse_ok {s : ByteArray} {r : List Int} (h : ParseNatIs s r true) : Ok r := by
  rcases h with ⟨_, hn, hc, hv⟩ | ⟨h, _⟩
  · refine ⟨hc, short_of hc ?_⟩
    obtain ⟨hd, h540, _⟩ := hn
    rw [hv]
    unfold worth
    rw [List.take_of_length_le (by rw [len_size]; exact Nat.le_refl _)]
    exact lt_pw (digits_pos s hd).2 60 (by rw [len_size]; omega)
  · cases h
theorem parsed_mk {s : ByteArray} {r : List Int} (h : ParseNatIs (bodyT s) r true) (hn : BOk (negT s) r) : Parsed s r := ⟨h, fun e => hn.2 e⟩
end Go.Proofs.YtkigfakfadoopaaGreatDoor
