/- Symmetric matrices, as data: what the functions of the chapter answer. -/
import Derived.Test.YtdehcddjkcpnfaaGreatMatC
import Derived.Test.YtdehcddjkcpnfaaGreatVecB
import Derived.Test.YtdehcddjkcpnfaaGreatMatS1
namespace Go.Proofs.YtdehcddjkcpnfaaGreat
set_option maxRecDepth 100000
open Go.RowKit

def IsSymmetricIs (p k : Int) (rs : List RD) (b : Bool) : Prop := b = true ↔ MOk p k rs ∧ p = k ∧ rs = trans p.toNat k.toNat rs
theorem sym_no {p k : Int} {rs : List RD} (h : ¬ (MOk p k rs ∧ p = k)) : IsSymmetricIs p k rs false := by
  unfold IsSymmetricIs
  exact ⟨fun h1 => (by cases h1), fun h1 => absurd ⟨h1.1, h1.2.1⟩ h⟩
theorem sym_of {p k q j : Int} {rs r : List RD} {b : Bool} (ht : TransposeIs p k rs q j r) (he : EqualMatricesIs p k rs q j r b) : IsSymmetricIs p k rs b := by
  unfold IsSymmetricIs
  unfold EqualMatricesIs at he
  rw [he]
  rcases ht with ⟨h, rfl, rfl, rfl⟩ | ⟨h, rfl, rfl, rfl⟩
  · exact ⟨fun ⟨h1, _, h2⟩ => ⟨h, h1, h2⟩, fun ⟨_, h1, h2⟩ => ⟨h1, h1.symm, h2⟩⟩
  · constructor
    · rintro ⟨rfl, rfl, rfl⟩
      exact absurd ⟨⟨by omega, by omega⟩, ⟨by omega, by omega⟩, by simp, by simp⟩ h
    · exact fun h1 => absurd h1.1 h
/-- A fraction and true, or the zero value and false. -/
def RatDoneIs (P : Prop) (v : RD) (g : Bool) (l d : List Int) (q : Bool) : Prop := ((P ∧ v.ok) ∧ RD.mk g l d = v ∧ q = true) ∨ (¬ (P ∧ v.ok) ∧ RD.mk g l d = RD.zero ∧ q = false)
/-- The elements with equal row and column. -/
def diag (P : Nat) (rs : List RD) : List RD := (List.range P).map fun i => (rs[i * P + i]?).getD RD.zero
def DiagonalOfIs (p k : Int) (rs r : List RD) : Prop := ((MOk p k rs ∧ p = k) ∧ r = diag p.toNat rs) ∨ (¬ (MOk p k rs ∧ p = k) ∧ r = [])
def TraceOfIs (p k : Int) (rs : List RD) (g : Bool) (l d : List Int) (q : Bool) : Prop := RatDoneIs (MOk p k rs ∧ p = k) (rsum (diag p.toNat rs) p.toNat) g l d q
def QuadraticFormIs (p k : Int) (rs v : List RD) (g : Bool) (l d : List Int) (q : Bool) : Prop :=
  RatDoneIs ((MOk p k rs ∧ VOk v ∧ (v.length : Int) = k) ∧ p = k ∧ ∀ x ∈ mapp p.toNat k.toNat rs v, x.ok) (rinner v (mapp p.toNat k.toNat rs v)) g l d q
/-- The element before number i, or -1. -/
def lastAt (l : List Int) (i : Nat) : Int := if i = 0 then -1 else (l[i - 1]?).getD (-1)
theorem lastAt_zero (l : List Int) : lastAt l 0 = -1 := rfl
theorem lastAt_succ {l : List Int} {i : Nat} {x : Int} (h : l[i]? = some x) : lastAt l (i + 1) = x := by simp [lastAt, h]
/-- Number i is greater than the one before, and less than n. -/
def AscAt (n : Int) (l : List Int) (i : Nat) : Prop := ∀ x, l[i]? = some x → lastAt l i < x ∧ x < n
def AscIs (n : Int) (l : List Int) : Prop := ∀ i, i < l.length → AscAt n l i
theorem AscIs.ge {n : Int} {l : List Int} (h : AscIs n l) : ∀ (i : Nat) (x : Int), l[i]? = some x → (i : Int) ≤ x := by
  intro i
  induction i with
  | zero =>
    intro x hx
    obtain ⟨h0, _⟩ := List.getElem?_eq_some_iff.1 hx
    have h1 := (h 0 h0 x hx).1
    rw [lastAt_zero] at h1
    omega
  | succ i ih =>
    intro x hx
    obtain ⟨h0, _⟩ := List.getElem?_eq_some_iff.1 hx
    have hg : l[i]? = some l[i] := List.getElem?_eq_getElem (by omega)
    have h1 := (h (i + 1) h0 x hx).1
    rw [lastAt_succ hg] at h1
    have := ih _ hg
    omega
theorem AscIs.nat {n : Int} {l : List Int} (h : AscIs n l) {i : Nat} {x : Int} (hx : l[i]? = some x) : 0 ≤ x ∧ x < n := by
  obtain ⟨h0, _⟩ := List.getElem?_eq_some_iff.1 hx
  exact ⟨by have := h.ge i x hx; omega, (h i h0 x hx).2⟩
theorem AscIs.len {n : Int} {l : List Int} (h : AscIs n l) (hn : 0 ≤ n) : (l.length : Int) ≤ n := by
  rcases Nat.eq_zero_or_pos l.length with h0 | h0
  · omega
  · have hg : l[l.length - 1]? = some l[l.length - 1] := List.getElem?_eq_getElem (by omega)
    have h1 := h.ge _ _ hg
    have h2 := (h.nat hg).2
    omega
/-- The elements of these rows and of the columns with the same indices: the first u of them, row by row. -/
def subAt (P : Nat) (rs : List RD) (l : List Int) (i j : Nat) : RD := (rs[((l[i]?).getD 0).toNat * P + ((l[j]?).getD 0).toNat]?).getD RD.zero
def sub (P : Nat) (rs : List RD) (l : List Int) : List RD := (List.range (l.length * l.length)).map fun t => subAt P rs l (t / l.length) (t % l.length)
def SubmatrixIs (p k : Int) (rs : List RD) (l : List Int) (q j : Int) (r : List RD) (b : Bool) : Prop :=
  (((MOk p k rs ∧ p = k) ∧ AscIs p l) ∧ q = l.length ∧ j = l.length ∧ r = sub p.toNat rs l ∧ b = true) ∨ (¬ ((MOk p k rs ∧ p = k) ∧ AscIs p l) ∧ q = 0 ∧ j = 0 ∧ r = [] ∧ b = false)
def BoolEnd (Q : Bool → Prop) (w w' : World) (e : Ending) : Prop := ∃ b, e = .returned (.bool b) ∧ Q b ∧ Below w.heap.size w w'
/-- A list that a call has handed back, to be handed on. -/
theorem resV_in {w w' : World} {V : Value} {rs : List RD} {n : Nat} (h : ResV w w' V rs) (hn : rs.length = n) : ∃ A c, V = .slice A n c ∧ n ≤ c ∧ InV w' A n rs := by
  obtain ⟨h1, h2, L, ho, hh⟩ := h
  rw [hn] at ho h1
  obtain ⟨A, c, rfl⟩ := ho.slice
  exact ⟨A, c, rfl, own_le ho.2.1, ho.in_ hh (by omega) h2⟩
end Go.Proofs.YtdehcddjkcpnfaaGreat
