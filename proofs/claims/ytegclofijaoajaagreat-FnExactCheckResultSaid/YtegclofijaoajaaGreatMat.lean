/- Matrices as data: numbers of rows and columns and the elements row by row; what the functions on matrices return. No program is named here. -/
import Derived.Test.YtegclofijaoajaaGreatVecB
namespace Go.Proofs.YtegclofijaoajaaGreat
set_option maxRecDepth 100000
open Go.RowKit

/-- A valid matrix. -/
def MOk (p k : Int) (rs : List RD) : Prop := (0 ≤ p ∧ p ≤ 24) ∧ (0 ≤ k ∧ k ≤ 24) ∧ (rs.length : Int) = p * k ∧ ∀ r ∈ rs, r.ok
theorem MOk.nat {p k : Int} {rs : List RD} (h : MOk p k rs) : ∃ P K : Nat, p = P ∧ k = K ∧ P ≤ 24 ∧ K ≤ 24 ∧ rs.length = P * K := by
  obtain ⟨⟨h1, h2⟩, ⟨h3, h4⟩, h5, _⟩ := h
  refine ⟨p.toNat, k.toNat, by omega, by omega, by omega, by omega, ?_⟩
  have e1 : (p.toNat : Int) = p := by omega
  have e2 : (k.toNat : Int) = k := by omega
  have : ((p.toNat * k.toNat : Nat) : Int) = p * k := by rw [Int.natCast_mul, e1, e2]
  omega
theorem mul_le_576 {P K : Nat} (hP : P ≤ 24) (hK : K ≤ 24) : P * K ≤ 576 := Nat.mul_le_mul hP hK
theorem MOk.all {p k : Int} {rs : List RD} (h : MOk p k rs) : ∀ r ∈ rs, r.ok := h.2.2.2
theorem MOk.len {p k : Int} {rs : List RD} (h : MOk p k rs) : rs.length ≤ 576 := by
  obtain ⟨P, K, _, _, hP, hK, hl⟩ := h.nat
  have := mul_le_576 hP hK
  omega
/-- Row i. -/
def mrow (K : Nat) (rs : List RD) (i : Nat) : List RD := (rs.drop (i * K)).take K
theorem row_le {P K i : Nat} (hi : i < P) : i * K + K ≤ P * K := by
  have : (i + 1) * K ≤ P * K := Nat.mul_le_mul_right K hi
  rw [Nat.add_mul, Nat.one_mul] at this
  exact this
theorem mrow_at {K i j : Nat} {rs : List RD} (hj : j < K) : (mrow K rs i)[j]? = rs[i * K + j]? := by
  simp only [mrow]
  rw [List.getElem?_take_of_lt hj, List.getElem?_drop]
/-- The element's place. -/
theorem cell_lt {P K i j : Nat} (hi : i < P) (hj : j < K) : i * K + j < P * K := by
  have := row_le (K := K) hi
  omega

/-- P: a matrix of p0 rows and k0 columns with the elements v; else the zero value. -/
def MatIs (P : Prop) (p0 k0 : Int) (v : List RD) (p k : Int) (r : List RD) : Prop := (P ∧ p = p0 ∧ k = k0 ∧ r = v) ∨ (¬ P ∧ p = 0 ∧ k = 0 ∧ r = [])
/-- The same and true, where all elements are valid too. -/
def MatDoneIs (P : Prop) (p0 k0 : Int) (v : List RD) (p k : Int) (r : List RD) (b : Bool) : Prop :=
  ((P ∧ ∀ x ∈ v, x.ok) ∧ p = p0 ∧ k = k0 ∧ r = v ∧ b = true) ∨ (¬ (P ∧ ∀ x ∈ v, x.ok) ∧ p = 0 ∧ k = 0 ∧ r = [] ∧ b = false)
section
variable {p k p' k' : Int} {rs ss : List RD}
def MatrixOkIs (p k : Int) (rs : List RD) (b : Bool) : Prop := b = true ↔ MOk p k rs
/-- The integers as a matrix. -/
noncomputable def mints (l : List Int) : List RD := l.map rint
def MatrixOfIs (rows cols : Int) (l : List Int) (p k : Int) (r : List RD) : Prop := MatIs ((0 ≤ rows ∧ rows ≤ 24) ∧ (0 ≤ cols ∧ cols ≤ 24) ∧ (l.length : Int) = rows * cols) rows cols (mints l) p k r
/-- The identity. -/
noncomputable def ident (n : Nat) : List RD := (List.range (n * n)).map fun t => if t / n = t % n then rint 1 else rint 0
def IdentityMatrixIs (n p k : Int) (r : List RD) : Prop := MatIs (0 ≤ n ∧ n ≤ 24) n n (ident n.toNat) p k r
/-- An element. -/
def CellAtIs (p k : Int) (rs : List RD) (i j : Int) (g : Bool) (l d : List Int) : Prop :=
  ((MOk p k rs ∧ (0 ≤ i ∧ i < p) ∧ 0 ≤ j ∧ j < k) ∧ rs[(i * k + j).toNat]? = some ⟨g, l, d⟩) ∨ (¬ (MOk p k rs ∧ (0 ≤ i ∧ i < p) ∧ 0 ≤ j ∧ j < k) ∧ g = false ∧ l = [] ∧ d = [])
/-- A row. -/
def RowOfIs (p k : Int) (rs : List RD) (i : Int) (r : List RD) : Prop := ((MOk p k rs ∧ 0 ≤ i ∧ i < p) ∧ r = mrow k.toNat rs i.toNat) ∨ (¬ (MOk p k rs ∧ 0 ≤ i ∧ i < p) ∧ r = [])
/-- Rows and columns exchanged (P rows, K columns before). -/
def trans (P K : Nat) (rs : List RD) : List RD := (List.range (K * P)).map fun t => (rs[(t % P) * K + t / P]?).getD RD.zero
def TransposeIs (p k : Int) (rs : List RD) (q j : Int) (r : List RD) : Prop := MatIs (MOk p k rs) k p (trans p.toNat k.toNat rs) q j r
def AddMatricesIs (p k : Int) (rs : List RD) (p' k' : Int) (ss : List RD) (q j : Int) (r : List RD) (b : Bool) : Prop := MatDoneIs (MOk p k rs ∧ MOk p' k' ss ∧ p = p' ∧ k = k') p k (List.zipWith radd rs ss) q j r b
/-- The product of a matrix of P rows and K columns and one of Q columns. -/
noncomputable def mmul (P K Q : Nat) (rs ss : List RD) : List RD := (List.range (P * Q)).map fun t => rinner (mrow K rs (t / Q)) (mrow K (trans K Q ss) (t % Q))
def MultiplyIs (p k : Int) (rs : List RD) (p' k' : Int) (ss : List RD) (q j : Int) (r : List RD) (b : Bool) : Prop := MatDoneIs (MOk p k rs ∧ MOk p' k' ss ∧ k = p') p k' (mmul p.toNat k.toNat k'.toNat rs ss) q j r b
/-- A matrix applied to a vector. -/
noncomputable def mapp (P K : Nat) (rs v : List RD) : List RD := (List.range P).map fun i => rinner (mrow K rs i) v
def ApplyMatrixIs (p k : Int) (rs v r : List RD) (b : Bool) : Prop := DoneIs (MOk p k rs ∧ VOk v ∧ (v.length : Int) = k) (mapp p.toNat k.toNat rs v) r b
def EqualMatricesIs (p k : Int) (rs : List RD) (p' k' : Int) (ss : List RD) (q : Bool) : Prop := q = true ↔ p = p' ∧ k = k' ∧ rs = ss
end
theorem div_of {P i j : Nat} (hi : i < P) : (j * P + i) / P = j := by
  rw [Nat.mul_comm, Nat.mul_add_div (by omega), Nat.div_eq_of_lt hi, Nat.add_zero]
theorem mod_of {P i j : Nat} (hi : i < P) : (j * P + i) % P = i := by
  rw [Nat.mul_comm, Nat.mul_add_mod, Nat.mod_eq_of_lt hi]
end Go.Proofs.YtegclofijaoajaaGreat
