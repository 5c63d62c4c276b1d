/- Linear programs as data: what is valid, rows and columns. No program is named here. -/
import Derived.Test.YtipmeijfmiiedaaGB
namespace Go.Proofs.Ytipmeijfmiiedaa
set_option maxRecDepth 100000
open Go.RowKit

/-- A program as data. -/
structure LP where
  p : Int
  k : Int
  la : List Int
  lb : List Int
  lc : List Int
def Ent (l : List Int) : Prop := ∀ z ∈ l, -100 ≤ z ∧ z ≤ 100
/-- A list of n entries. -/
def Ents (l : List Int) (n : Int) : Prop := (l.length : Int) = n ∧ Ent l
def EntsIs (l : List Int) (n : Int) (b : Bool) : Prop := b = true ↔ Ents l n
def IMOk (p k : Int) (la : List Int) : Prop := (0 ≤ p ∧ p ≤ 20) ∧ (0 ≤ k ∧ k ≤ 40) ∧ Ents la (p * k)
def LP.ok (P : LP) : Prop := IMOk P.p P.k P.la ∧ Ents P.lb P.p ∧ Ents P.lc P.k
theorem prod800 {p k : Int} (hp : 0 ≤ p ∧ p ≤ 20) (hk : 0 ≤ k ∧ k ≤ 40) : 0 ≤ p * k ∧ p * k ≤ 800 := by
  refine ⟨Int.mul_nonneg hp.1 hk.1, ?_⟩
  have h1 := Int.mul_le_mul_of_nonneg_right hp.2 hk.1
  omega
/-- The numbers of a valid program as natural numbers. -/
theorem LP.ok.nats {P : LP} (h : P.ok) : ∃ p k : Nat, P.p = (p : Int) ∧ P.k = (k : Int) ∧ p ≤ 20 ∧ k ≤ 40 ∧ P.la.length = p * k ∧ P.lb.length = p ∧ P.lc.length = k := by
  obtain ⟨⟨hp, hk, ha, _⟩, ⟨hb, _⟩, ⟨hc, _⟩⟩ := h
  obtain ⟨p, hpe⟩ := Int.eq_ofNat_of_zero_le hp.1
  obtain ⟨k, hke⟩ := Int.eq_ofNat_of_zero_le hk.1
  refine ⟨p, k, hpe, hke, by omega, by omega, ?_, by omega, by omega⟩
  have e : ((p * k : Nat) : Int) = P.p * P.k := by rw [hpe, hke]; exact Int.natCast_mul _ _
  omega
def lpOkIs (P : LP) (b : Bool) : Prop := b = true ↔ P.ok
def ProgramOkIs (p k : Int) (la lb lc : List Int) (b : Bool) : Prop := lpOkIs ⟨p, k, la, lb, lc⟩ b
theorem bool_unique {Q : Prop} {b b' : Bool} (h : b = true ↔ Q) (h' : b' = true ↔ Q) : b = b' := by
  cases b <;> cases b'
  · rfl
  · exact absurd (h.2 (h'.1 rfl)) (by simp)
  · exact absurd (h'.2 (h.1 rfl)) (by simp)
  · rfl
theorem programOk_unique {p k : Int} {la lb lc : List Int} {b b' : Bool} (h : ProgramOkIs p k la lb lc b) (h' : ProgramOkIs p k la lb lc b') : b = b' := bool_unique h h'

/-! Rows and columns. -/
def lrow (K : Nat) (la : List Int) (i : Nat) : List Int := (la.drop (i * K)).take K
def lcol (K : Nat) (la : List Int) (p j : Nat) : List Int := (List.range p).map fun i => (la[i * K + j]?).getD 0
theorem lrow_length {K p i : Nat} {la : List Int} (h : la.length = p * K) (hi : i < p) : (lrow K la i).length = K := by
  have : (i + 1) * K ≤ p * K := Nat.mul_le_mul_right _ hi
  rw [Nat.succ_mul] at this
  simp only [lrow, List.length_take, List.length_drop]; omega
theorem lcol_length (K : Nat) (la : List Int) (p j : Nat) : (lcol K la p j).length = p := by simp [lcol]
theorem lcol_at {K p i j : Nat} {la : List Int} {z : Int} (hi : i < p) (h : la[i * K + j]? = some z) : (lcol K la p j)[i]? = some z := by simp [lcol, hi, h]
theorem lcol_take {K p i j : Nat} {la : List Int} {z : Int} (hi : i < p) (h : la[i * K + j]? = some z) : (lcol K la p j).take (i + 1) = (lcol K la p j).take i ++ [z] := by
  rw [List.take_add_one, lcol_at hi h]; rfl
theorem place_lt {K p i j : Nat} {la : List Int} (h : la.length = p * K) (hi : i < p) (hj : j < K) : i * K + j < la.length := by
  have : (i + 1) * K ≤ p * K := Nat.mul_le_mul_right _ hi
  rw [Nat.succ_mul] at this
  omega
theorem lrow_at {K i j : Nat} {la : List Int} (hj : j < K) : (lrow K la i)[j]? = la[i * K + j]? := by
  simp [lrow, hj]
theorem ent_lrow {K : Nat} {la : List Int} {i : Nat} (h : Ent la) : Ent (lrow K la i) := fun z hz => h z (List.mem_of_mem_drop (List.mem_of_mem_take hz))
theorem ent_lcol {K : Nat} {la : List Int} {p j : Nat} (h : Ent la) : Ent (lcol K la p j) := fun z hz => by
  obtain ⟨i, _, rfl⟩ := List.mem_map.1 hz
  cases he : la[i * K + j]? with
  | none => simp
  | some y => exact h y (List.mem_of_getElem? he)
def ColumnOfIs (p k : Int) (la lb lc : List Int) (j : Int) (r : List Int) : Prop :=
  (((LP.mk p k la lb lc).ok ∧ 0 ≤ j ∧ j < k) ∧ r = lcol k.toNat la p.toNat j.toNat) ∨ (¬ ((LP.mk p k la lb lc).ok ∧ 0 ≤ j ∧ j < k) ∧ r = [])
theorem columnOf_unique {p k : Int} {la lb lc : List Int} {j : Int} {r r' : List Int} (h : ColumnOfIs p k la lb lc j r) (h' : ColumnOfIs p k la lb lc j r') : r = r' := by
  rcases h with ⟨a, rfl⟩ | ⟨a, rfl⟩ <;> rcases h' with ⟨b, rfl⟩ | ⟨b, rfl⟩
  · rfl
  · exact absurd a b
  · exact absurd b a
  · rfl

end Go.Proofs.Ytipmeijfmiiedaa
