/- What Reduce, RankOf and Determinant return, as relations; a matrix and a list of integers, handed back together. -/
import Derived.Test.YtdehcddjkcpnfaaGreatElimE
namespace Go.Proofs.YtdehcddjkcpnfaaGreat
set_option maxRecDepth 100000
open Go.RowKit

noncomputable def fin (p k : Int) (rs : List RD) : ES := est p.toNat k.toNat rs k.toNat
def pvs (pv : List Nat) : List Int := pv.map fun (x : Nat) => (x : Int)
section
variable {p k : Int} {rs : List RD}
def RankOfIs (p k : Int) (rs : List RD) (r : Int) : Prop := (Elim p k rs ∧ r = ((fin p k rs).pv.length : Int)) ∨ (¬ Elim p k rs ∧ r = -1)
def ReduceIs (p k : Int) (rs : List RD) (q j : Int) (r : List RD) (l : List Int) (b : Bool) : Prop :=
  (Elim p k rs ∧ q = p ∧ j = k ∧ r = (fin p k rs).rs ∧ l = pvs (fin p k rs).pv ∧ b = true) ∨ (¬ Elim p k rs ∧ q = 0 ∧ j = 0 ∧ r = [] ∧ l = [] ∧ b = false)
noncomputable def detv (p k : Int) (rs : List RD) : RD := open Classical in if ((fin p k rs).pv.length : Int) < p then R0 else prod (fin p k rs).fs
def DeterminantIs (p k : Int) (rs : List RD) (g : Bool) (l d : List Int) (b : Bool) : Prop :=
  ((Elim p k rs ∧ p = k) ∧ RD.mk g l d = detv p k rs ∧ (b = true ↔ (detv p k rs).ok)) ∨ (¬ (Elim p k rs ∧ p = k) ∧ RD.mk g l d = RD.zero ∧ b = false)
end
/-- A matrix's elements and a list of integers of the call's own, handed back together. -/
def ResVI (w w' : World) (V : Value) (rs : List RD) (v : Value) (l : List Int) : Prop :=
  rs.length + tot rs ≤ 1048576 ∧ (∀ r ∈ rs, r.fits) ∧ l.length ≤ 1048576 ∧ ∃ L, OwnV w' w.heap.size V rs.length L ∧ Has L rs ∧ w'.ownsRow w.heap.size 3 1 v l.length (l.map (.int .i64)) ∧ Off v L
def RedMEnd (Q : Int → Int → List RD → List Int → Bool → Prop) (w w' : World) (e : Ending) : Prop :=
  ∃ q j r V l v b, e = .returned (.tuple #[.agg #[.int .i64 q, .int .i64 j, V], v, .bool b]) ∧ Q q j r l b ∧ ResVI w w' V r v l ∧ Below w.heap.size w w'
end Go.Proofs.YtdehcddjkcpnfaaGreat
