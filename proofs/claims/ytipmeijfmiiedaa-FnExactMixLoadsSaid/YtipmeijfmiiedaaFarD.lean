/- What FarkasProgram and DualProgram answer: rows of entries. No program is named here. -/
import Derived.Test.YtipmeijfmiiedaaLpD
namespace Go.Proofs.Ytipmeijfmiiedaa
set_option maxRecDepth 100000
open Go.RowKit

def ineg (l : List Int) : List Int := l.map fun z => -z
/-- The row of an element s. -/
def iunit (K j : Nat) : List Int := (List.replicate K (0 : Int)).set j (-1)
def frow (K : Nat) (la : List Int) (p j : Nat) : List Int := lcol K la p j ++ ineg (lcol K la p j) ++ iunit K j
def frows (K : Nat) (la : List Int) (p : Nat) : Nat → List Int
  | 0 => []
  | j + 1 => frows K la p j ++ frow K la p j
theorem ineg_length (l : List Int) : (ineg l).length = l.length := by simp [ineg]
theorem iunit_length (K j : Nat) : (iunit K j).length = K := by simp [iunit]
theorem frow_length (K : Nat) (la : List Int) (p j : Nat) : (frow K la p j).length = p + p + K := by
  simp only [frow, List.length_append, ineg_length, iunit_length, lcol_length]
theorem frows_length (K : Nat) (la : List Int) (p : Nat) : ∀ J, (frows K la p J).length = J * (p + p + K)
  | 0 => by simp [frows]
  | J + 1 => by rw [frows, List.length_append, frows_length K la p J, frow_length, Nat.succ_mul]
theorem iunit_take {K j i : Nat} (h : i < K) : (iunit K j).take (i + 1) = (iunit K j).take i ++ [if i = j then -1 else 0] := by
  rw [List.take_add_one]
  congr 1
  unfold iunit
  rw [List.getElem?_set]
  by_cases e : i = j
  · subst e; rw [if_pos rfl, if_pos (by simpa using h), if_pos rfl]; rfl
  · rw [if_neg (Ne.symm e), if_neg e, List.getElem?_replicate, if_pos h]; rfl
theorem ineg_take {l : List Int} {i : Nat} {z : Int} (h : l[i]? = some z) : (ineg l).take (i + 1) = (ineg l).take i ++ [-z] := by
  rw [List.take_add_one]
  congr 1
  simp [ineg, h]
/-- Integers of 64 bits. -/
def I64s (l : List Int) : Prop := ∀ z ∈ l, -9223372036854775808 ≤ z ∧ z ≤ 9223372036854775807
theorem Ent.i64 {l : List Int} (h : Ent l) : I64s l := fun z hz => by have := h z hz; omega
theorem Ent.ineg {l : List Int} (h : Ent l) : Ent (ineg l) := fun z hz => by
  obtain ⟨y, hy, rfl⟩ := List.mem_map.1 hz
  have := h y hy
  omega
theorem Ent.append {l m : List Int} (h : Ent l) (k : Ent m) : Ent (l ++ m) := fun z hz => (List.mem_append.1 hz).elim (h z) (k z)
theorem ent_zeros (n : Nat) : Ent (List.replicate n 0) := fun z hz => by have := List.eq_of_mem_replicate hz; omega
theorem ent_iunit (K j : Nat) : Ent (iunit K j) := fun z hz => by
  rcases List.mem_or_eq_of_mem_set hz with h | h
  · exact ent_zeros K z h
  · omega
theorem ent_frow {K : Nat} {la : List Int} (h : Ent la) (p j : Nat) : Ent (frow K la p j) := ((ent_lcol h).append (ent_lcol h).ineg).append (ent_iunit K j)
theorem ent_frows {K : Nat} {la : List Int} (h : Ent la) (p : Nat) : ∀ J, Ent (frows K la p J)
  | 0 => fun z hz => by cases hz
  | J + 1 => (ent_frows h p J).append (ent_frow h p J)
/-- A program that can be certified. -/
def Fits (P : LP) : Prop := P.ok ∧ P.p ≤ 9 ∧ P.k ≤ 16
def farkasP (P : LP) : LP :=
  ⟨P.k + 1, 2 * P.p + P.k, frows P.k.toNat P.la P.p.toNat P.k.toNat ++ (P.lb ++ ineg P.lb ++ List.replicate P.k.toNat 0), List.replicate P.k.toNat 0 ++ [-1], List.replicate (2 * P.p.toNat + P.k.toNat) 0⟩
def dualP (P : LP) : LP :=
  ⟨P.k, 2 * P.p + P.k, frows P.k.toNat P.la P.p.toNat P.k.toNat, P.lc, ineg P.lb ++ P.lb ++ List.replicate P.k.toNat 0⟩
def SearchIs (P Q R : LP) : Prop := (Fits P ∧ R = Q) ∨ (¬ Fits P ∧ R = ⟨0, 0, [], [], []⟩)
def FarkasProgramIs (p k : Int) (la lb lc : List Int) (p' k' : Int) (la' lb' lc' : List Int) : Prop := SearchIs ⟨p, k, la, lb, lc⟩ (farkasP ⟨p, k, la, lb, lc⟩) ⟨p', k', la', lb', lc'⟩
def DualProgramIs (p k : Int) (la lb lc : List Int) (p' k' : Int) (la' lb' lc' : List Int) : Prop := SearchIs ⟨p, k, la, lb, lc⟩ (dualP ⟨p, k, la, lb, lc⟩) ⟨p', k', la', lb', lc'⟩
theorem search_unique {P Q : LP} {p k p' k' : Int} {la lb lc la' lb' lc' : List Int} (h : SearchIs P Q ⟨p, k, la, lb, lc⟩) (h' : SearchIs P Q ⟨p', k', la', lb', lc'⟩) : p = p' ∧ k = k' ∧ la = la' ∧ lb = lb' ∧ lc = lc' := by
  have key : LP.mk p k la lb lc = LP.mk p' k' la' lb' lc' := by
    rcases h with ⟨a, e⟩ | ⟨a, e⟩ <;> rcases h' with ⟨b, e'⟩ | ⟨b, e'⟩
    · rw [e, e']
    · exact absurd a b
    · exact absurd b a
    · rw [e, e']
  cases key
  exact ⟨rfl, rfl, rfl, rfl, rfl⟩
theorem farkasProgram_unique {p k : Int} {la lb lc : List Int} {p1 k1 p2 k2 : Int} {la1 lb1 lc1 la2 lb2 lc2 : List Int} (h : FarkasProgramIs p k la lb lc p1 k1 la1 lb1 lc1) (h' : FarkasProgramIs p k la lb lc p2 k2 la2 lb2 lc2) : p1 = p2 ∧ k1 = k2 ∧ la1 = la2 ∧ lb1 = lb2 ∧ lc1 = lc2 := search_unique h h'
theorem dualProgram_unique {p k : Int} {la lb lc : List Int} {p1 k1 p2 k2 : Int} {la1 lb1 lc1 la2 lb2 lc2 : List Int} (h : DualProgramIs p k la lb lc p1 k1 la1 lb1 lc1) (h' : DualProgramIs p k la lb lc p2 k2 la2 lb2 lc2) : p1 = p2 ∧ k1 = k2 ∧ la1 = la2 ∧ lb1 = lb2 ∧ lc1 = lc2 := search_unique h h'
end Go.Proofs.Ytipmeijfmiiedaa
