/- Lists of fractions: a sum that is reckoned up element by element, held in a variable; the inner product as data. -/
import Derived.Test.YtdehcddjkcpnfaaGreatGV
import Derived.Test.YtdehcddjkcpnfaaGreatGF
namespace Go.Proofs.YtdehcddjkcpnfaaGreat
set_option maxRecDepth 100000
open Go.RowKit

theorem RD.gr {r : RD} (h : r.ok ∨ r = RD.zero) : GRat r.g r.xs r.ds := by
  rcases h with h | rfl
  · exact .inl h
  · exact .inr ⟨rfl, rfl, rfl⟩
theorem RD.val_nil {r : RD} (h : r.xs = []) : bval r.g r.xs = 0 := by rw [h]; cases r.g <;> simp [bval, val]
/-- The sum of the first i. -/
noncomputable def rsum (zs : List RD) (i : Nat) : RD := (zs.take i).foldl radd (rint 0)
noncomputable def rinner (a b : List RD) : RD := rsum (List.zipWith rmul a b) (List.zipWith rmul a b).length
def InnerProductIs (a b : List RD) (g : Bool) (l d : List Int) (q : Bool) : Prop :=
  ((PairOk a b ∧ (rinner a b).ok) ∧ RD.mk g l d = rinner a b ∧ q = true) ∨ (¬ (PairOk a b ∧ (rinner a b).ok) ∧ RD.mk g l d = RD.zero ∧ q = false)
def RatOkEnd (Q : Bool → List Int → List Int → Bool → Prop) (w w' : World) (e : Ending) : Prop :=
  ∃ g r v d u b, e = .returned (.tuple #[.agg #[.bool g, v, u], .bool b]) ∧ Q g r d b ∧ ResI w w' v r ∧ ResI w w' u d ∧ Apart u v ∧ Below w.heap.size w w'
/-- A variable that holds a fraction of the call's own. -/
def RSum (w : World) (base gs : Nat) (q : RD) (A : Option Addr) (c : Nat) (B : Option Addr) (d : Nat) : Prop :=
  Box w gs 30 #[.bool q.g, .slice A q.xs.length c, .slice B q.ds.length d] ∧ w.ownsRow base 3 1 (.slice A q.xs.length c) q.xs.length (q.xs.map (.int .i64)) ∧ w.ownsRow base 3 1 (.slice B q.ds.length d) q.ds.length (q.ds.map (.int .i64)) ∧
    Apart (.slice B q.ds.length d) (.slice A q.xs.length c)
section
variable {w w' : World} {base gs : Nat} {q : RD} {A B : Option Addr} {c d : Nat}
theorem RSum.below (h : RSum w base gs q A c B d) (hb : Below w.heap.size w w') : RSum w' base gs q A c B d := ⟨h.1.below hb h.1.lt, own_below h.2.1 hb, own_below h.2.2.1 hb, h.2.2.2⟩
theorem RSum.alloc (h : RSum w base gs q A c B d) (o : Obj) : RSum (w.alloc o) base gs q A c B d := h.below ((Below.refl _ _).alloc (Nat.le_refl _) _)
theorem RSum.drew (h : RSum w base gs q A c B d) : RSum w.drew base gs q A c B d := ⟨h.1.drew, own_drew h.2.1, own_drew h.2.2.1, h.2.2.2⟩
theorem RSum.in1 (h : RSum w base gs q A c B d) (hg : q.ok ∨ q = RD.zero) : InI w A q.xs.length q.xs := ⟨rfl, by have := (RD.gr hg).short.1; omega, Reads.of_own h.2.1, limbs_bd (RD.gr hg).nr⟩
theorem RSum.in2 (h : RSum w base gs q A c B d) (hg : q.ok ∨ q = RD.zero) : InI w B q.ds.length q.ds := ⟨rfl, by have := (RD.gr hg).short.2; omega, Reads.of_own h.2.2.1, limbs_bd (RD.gr hg).dr⟩
theorem RSum.room1 (h : RSum w base gs q A c B d) : Room A q.xs.length c := room_own h.2.1
theorem RSum.room2 (h : RSum w base gs q A c B d) : Room B q.ds.length d := room_own h.2.2.1
theorem RSum.at3 (h : RSum w base gs q A c B d) : At3 w gs 0 (.bool q.g) (.slice A q.xs.length c) (.slice B q.ds.length d) := ⟨h.1.cell 0, h.1.cell 1, h.1.cell 2⟩
theorem RSum.free (h : RSum w base gs q A c B d) (i : Nat) : w.frozen? ⟨gs, i, none⟩ = false := h.1.free i
theorem RSum.three (h : RSum w base gs q A c B d) : w.cell? ⟨gs, 0, none⟩ = some (.bool q.g) ∧ w.cell? ⟨gs, 1, none⟩ = some (.slice A q.xs.length c) ∧ w.cell? ⟨gs, 2, none⟩ = some (.slice B q.ds.length d) ∧ w.frozen? ⟨gs, 0, none⟩ = false ∧ w.frozen? ⟨gs, 1, none⟩ = false ∧ w.frozen? ⟨gs, 2, none⟩ = false :=
  ⟨h.1.cell 0, h.1.cell 1, h.1.cell 2, h.1.free 0, h.1.free 1, h.1.free 2⟩
end
/-- A variable is set to a fraction that a call has handed back. -/
theorem sum_store {W w : World} {base gs b0 : Nat} {cs : Array Value} {q : RD} {A B : Option Addr} {c d : Nat} (hbx : Box w gs 30 cs) (hcs : cs.size = 3) (h1 : w.ownsRow b0 3 1 (.slice A q.xs.length c) q.xs.length (q.xs.map (.int .i64))) (h2 : w.ownsRow b0 3 1 (.slice B q.ds.length d) q.ds.length (q.ds.map (.int .i64)))
    (hb : base ≤ b0) (hap : Apart (.slice B q.ds.length d) (.slice A q.xs.length c)) (hW : Below W.heap.size W w) (hg : W.heap.size ≤ gs) :
    RSum (((w.setCell ⟨gs, 0, none⟩ (.bool q.g)).setCell ⟨gs, 1, none⟩ (.slice A q.xs.length c)).setCell ⟨gs, 2, none⟩ (.slice B q.ds.length d)) base gs q A c B d ∧ Below W.heap.size W (((w.setCell ⟨gs, 0, none⟩ (.bool q.g)).setCell ⟨gs, 1, none⟩ (.slice A q.xs.length c)).setCell ⟨gs, 2, none⟩ (.slice B q.ds.length d)) := by
  refine ⟨⟨?_, own_base (own_store3 h1 hbx (by decide) _ _ _) hb, own_base (own_store3 h2 hbx (by decide) _ _ _) hb, hap⟩, below_store3 hW hg _ _ _⟩
  have h := ((hbx.set_ 0 (.bool q.g)).set_ 1 (.slice A q.xs.length c)).set_ 2 (.slice B q.ds.length d)
  have e : ((cs.setIfInBounds 0 (.bool q.g)).setIfInBounds 1 (.slice A q.xs.length c)).setIfInBounds 2 (.slice B q.ds.length d) = #[.bool q.g, .slice A q.xs.length c, .slice B q.ds.length d] := by
    match cs, hcs with
    | ⟨[_, _, _]⟩, _ => rfl
  rw [e] at h
  exact h
section
variable {w : World} {base gs : Nat} {q : RD} {A B : Option Addr} {c d : Nat}
end
end Go.Proofs.YtdehcddjkcpnfaaGreat
