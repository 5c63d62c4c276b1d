/- Lists of fractions: a sum that is reckoned up element by element, held in a variable; the inner product as data. -/
import Derived.Test.YtegclofijaoajaaGreatGV
import Derived.Test.YtegclofijaoajaaGreatGF
namespace Go.Proofs.YtegclofijaoajaaGreat
set_option maxRecDepth 100000
open Go.RowKit

theorem RD.gr {r : RD} (h : r.ok ∨ r = RD.zero) : GRat r.g r.xs r.ds := by
  rcases h with h | rfl
  · exact .inl h
  · exact .inr ⟨rfl, rfl, rfl⟩
theorem rIs_ex (P : Prop) (N D : Int) : ∃ r : RD, RIs P N D r.g r.xs r.ds := by
  classical
  by_cases h : P ∧ ∃ g l d, RLow N D g l d ∧ Short l d
  · obtain ⟨hp, g, l, d, h1, h2⟩ := h
    exact ⟨⟨g, l, d⟩, .inl ⟨hp, h1, h2⟩⟩
  · exact ⟨RD.zero, .inr ⟨h, rfl, rfl, rfl⟩⟩
theorem pickR_spec (P : Prop) (N D : Int) : RIs P N D (pickR (RIs P N D)).g (pickR (RIs P N D)).xs (pickR (RIs P N D)).ds := by
  have h := rIs_ex P N D
  unfold pickR
  rw [dif_pos h]
  exact h.choose_spec
theorem RD.val_nil {r : RD} (h : r.xs = []) : bval r.g r.xs = 0 := by rw [h]; cases r.g <;> simp [bval, val]
theorem radd_bad {s z : RD} (h : ¬ (s.ok ∧ z.ok)) : radd s z = RD.zero := (radd_good s z).resolve_left fun k => h (radd_ok k)
/-- The sum of the first i. -/
noncomputable def rsum (zs : List RD) (i : Nat) : RD := (zs.take i).foldl radd (rint 0)
theorem rsum_succ {zs : List RD} {i : Nat} {z : RD} (h : zs[i]? = some z) : rsum zs (i + 1) = radd (rsum zs i) z := by
  obtain ⟨hlt, rfl⟩ := List.getElem?_eq_some_iff.1 h
  unfold rsum
  rw [List.take_succ_eq_append_getElem hlt, List.foldl_append]
  rfl
theorem rsum_good (zs : List RD) : ∀ i, (rsum zs i).ok ∨ rsum zs i = RD.zero
  | 0 => rint_good 0
  | i + 1 => by
    by_cases h : i < zs.length
    · rw [rsum_succ (List.getElem?_eq_getElem h)]; exact radd_good _ _
    · have e : rsum zs (i + 1) = rsum zs i := by unfold rsum; rw [List.take_of_length_le (by omega), List.take_of_length_le (by omega)]
      rw [e]; exact rsum_good zs i
noncomputable def rinner (a b : List RD) : RD := rsum (List.zipWith rmul a b) (List.zipWith rmul a b).length
def InnerProductIs (a b : List RD) (g : Bool) (l d : List Int) (q : Bool) : Prop :=
  ((PairOk a b ∧ (rinner a b).ok) ∧ RD.mk g l d = rinner a b ∧ q = true) ∨ (¬ (PairOk a b ∧ (rinner a b).ok) ∧ RD.mk g l d = RD.zero ∧ q = false)
def RatOkEnd (Q : Bool → List Int → List Int → Bool → Prop) (w w' : World) (e : Ending) : Prop :=
  ∃ g r v d u b, e = .returned (.tuple #[.agg #[.bool g, v, u], .bool b]) ∧ Q g r d b ∧ ResI w w' v r ∧ ResI w w' u d ∧ Apart u v ∧ Below w.heap.size w w'
theorem ratOkEnd_zero {Q : Bool → List Int → List Int → Bool → Prop} {w w' : World} {b : Bool} (h : Q false [] [] b) (hb : Below w.heap.size w w') : RatOkEnd Q w w' (.returned (.tuple #[.agg #[.bool false, .slice none 0 0, .slice none 0 0], .bool b])) :=
  ⟨false, [], _, [], _, b, rfl, h, ⟨by simp, World.ownsRow_nil _ _ _ _⟩, ⟨by simp, World.ownsRow_nil _ _ _ _⟩, (fun k hk => by simp [Value.ownBlock] at hk), hb⟩

/-- A variable that holds a fraction of the call's own. -/
def RSum (w : World) (base gs : Nat) (q : RD) (A : Option Addr) (c : Nat) (B : Option Addr) (d : Nat) : Prop :=
  Box w gs 34 #[.bool q.g, .slice A q.xs.length c, .slice B q.ds.length d] ∧ w.ownsRow base 3 1 (.slice A q.xs.length c) q.xs.length (q.xs.map (.int .i64)) ∧ w.ownsRow base 3 1 (.slice B q.ds.length d) q.ds.length (q.ds.map (.int .i64)) ∧
    Apart (.slice B q.ds.length d) (.slice A q.xs.length c)
section
variable {w w' : World} {base gs : Nat} {q : RD} {A B : Option Addr} {c d : Nat}
theorem RSum.below (h : RSum w base gs q A c B d) (hb : Below w.heap.size w w') : RSum w' base gs q A c B d := ⟨h.1.below hb h.1.lt, own_below h.2.1 hb, own_below h.2.2.1 hb, h.2.2.2⟩
theorem RSum.alloc (h : RSum w base gs q A c B d) (o : Obj) : RSum (w.alloc o) base gs q A c B d := h.below ((Below.refl _ _).alloc (Nat.le_refl _) _)
theorem RSum.drew (h : RSum w base gs q A c B d) : RSum w.drew base gs q A c B d := ⟨h.1.drew, own_drew h.2.1, own_drew h.2.2.1, h.2.2.2⟩
theorem RSum.in1 (h : RSum w base gs q A c B d) (hg : q.ok ∨ q = RD.zero) : InI w A q.xs.length q.xs := ⟨rfl, by have := (RD.gr hg).short.1; omega, Reads.of_own h.2.1, limbs_bd (RD.gr hg).nr⟩
theorem RSum.in2 (h : RSum w base gs q A c B d) (hg : q.ok ∨ q = RD.zero) : InI w B q.ds.length q.ds := ⟨rfl, by have := (RD.gr hg).short.2; omega, Reads.of_own h.2.2.1, limbs_bd (RD.gr hg).dr⟩
theorem RSum.room1 (h : RSum w base gs q A c B d) : Room A q.xs.length c := room_own h.2.1
theorem RSum.room2 (h : RSum w base gs q A c B d) : Room B q.ds.length d := room_own h.2.2.1
theorem RSum.free (h : RSum w base gs q A c B d) (i : Nat) : w.frozen? ⟨gs, i, none⟩ = false := h.1.free i
theorem RSum.three (h : RSum w base gs q A c B d) : w.cell? ⟨gs, 0, none⟩ = some (.bool q.g) ∧ w.cell? ⟨gs, 1, none⟩ = some (.slice A q.xs.length c) ∧ w.cell? ⟨gs, 2, none⟩ = some (.slice B q.ds.length d) ∧ w.frozen? ⟨gs, 0, none⟩ = false ∧ w.frozen? ⟨gs, 1, none⟩ = false ∧ w.frozen? ⟨gs, 2, none⟩ = false :=
  ⟨h.1.cell 0, h.1.cell 1, h.1.cell 2, h.1.free 0, h.1.free 1, h.1.free 2⟩
end
/-- A variable is set to a fraction that a call has handed back. -/
theorem sum_store {W w : World} {base gs b0 : Nat} {cs : Array Value} {q : RD} {A B : Option Addr} {c d : Nat} (hbx : Box w gs 34 cs) (hcs : cs.size = 3) (h1 : w.ownsRow b0 3 1 (.slice A q.xs.length c) q.xs.length (q.xs.map (.int .i64))) (h2 : w.ownsRow b0 3 1 (.slice B q.ds.length d) q.ds.length (q.ds.map (.int .i64)))
    (hb : base ≤ b0) (hap : Apart (.slice B q.ds.length d) (.slice A q.xs.length c)) (hW : Below W.heap.size W w) (hg : W.heap.size ≤ gs) :
    RSum (((w.setCell ⟨gs, 0, none⟩ (.bool q.g)).setCell ⟨gs, 1, none⟩ (.slice A q.xs.length c)).setCell ⟨gs, 2, none⟩ (.slice B q.ds.length d)) base gs q A c B d ∧ Below W.heap.size W (((w.setCell ⟨gs, 0, none⟩ (.bool q.g)).setCell ⟨gs, 1, none⟩ (.slice A q.xs.length c)).setCell ⟨gs, 2, none⟩ (.slice B q.ds.length d)) := by
  refine ⟨⟨?_, own_base (own_store3 h1 hbx (by decide) _ _ _) hb, own_base (own_store3 h2 hbx (by decide) _ _ _) hb, hap⟩, below_store3 hW hg _ _ _⟩
  have h := ((hbx.set_ 0 (.bool q.g)).set_ 1 (.slice A q.xs.length c)).set_ 2 (.slice B q.ds.length d)
  have e : ((cs.setIfInBounds 0 (.bool q.g)).setIfInBounds 1 (.slice A q.xs.length c)).setIfInBounds 2 (.slice B q.ds.length d) = #[.bool q.g, .slice A q.xs.length c, .slice B q.ds.length d] := by
    match cs, hcs with
    | ⟨[_, _, _]⟩, _ => rfl
  rw [e] at h
  exact h
section
variable {w : World} {base gs : Nat} {q : RD} {A B : Option Addr} {c d : Nat}
theorem sum3 (h : Hid (RSum w base gs q A c B d)) : w.cell? ⟨gs, 0, none⟩ = some (.bool q.g) ∧ w.cell? ⟨gs, 1, none⟩ = some (.slice A q.xs.length c) ∧ w.cell? ⟨gs, 2, none⟩ = some (.slice B q.ds.length d) := ⟨h.out.1.cell 0, h.out.1.cell 1, h.out.1.cell 2⟩
theorem sum3far {G : Nat} (h : Hid (RSum w base gs q A c B d)) (hne : Hid (gs ≠ G)) (u0 u1 u2 : Value) :
    (((w.setCell ⟨G, 0, none⟩ u0).setCell ⟨G, 1, none⟩ u1).setCell ⟨G, 2, none⟩ u2).cell? ⟨gs, 0, none⟩ = some (.bool q.g) ∧ (((w.setCell ⟨G, 0, none⟩ u0).setCell ⟨G, 1, none⟩ u1).setCell ⟨G, 2, none⟩ u2).cell? ⟨gs, 1, none⟩ = some (.slice A q.xs.length c) ∧
      (((w.setCell ⟨G, 0, none⟩ u0).setCell ⟨G, 1, none⟩ u1).setCell ⟨G, 2, none⟩ u2).cell? ⟨gs, 2, none⟩ = some (.slice B q.ds.length d) := by
  have hb := ((h.out.1.far (p := ⟨G, 0, none⟩) hne.out u0).far (p := ⟨G, 1, none⟩) hne.out u1).far (p := ⟨G, 2, none⟩) hne.out u2
  exact ⟨hb.cell 0, hb.cell 1, hb.cell 2⟩
end
/-- A fraction and a truth, handed back: the fraction lay in a variable. -/
theorem ratOkEnd_sum {Q : Bool → List Int → List Int → Bool → Prop} {w W : World} {gb gs : Nat} {cs : Array Value} {q : RD} {A B : Option Addr} {c d : Nat} {b : Bool} (hbx : Box W gb 34 cs) (hg : w.heap.size ≤ gb) (hb : Below w.heap.size w W) (hQ : Q q.g q.xs q.ds b) (hq : q.ok ∨ q = RD.zero)
    (h : RSum W w.heap.size gs q A c B d) :
    RatOkEnd Q w (((W.setCell ⟨gb, 0, none⟩ (.bool q.g)).setCell ⟨gb, 1, none⟩ (.slice A q.xs.length c)).setCell ⟨gb, 2, none⟩ (.slice B q.ds.length d)) (.returned (.tuple #[.agg #[.bool q.g, .slice A q.xs.length c, .slice B q.ds.length d], .bool b])) := by
  have h1 := (RD.gr hq).short
  obtain ⟨g, l, v, e, u, h1, h2, h3, h4, h5, h6⟩ := ratEnd_store (Q := fun g l d => Q g l d b) hbx hg hb hQ rfl rfl (by have := h1.1; omega) (by have := h1.2; omega) h.2.1 (Nat.le_refl _) h.2.2.1 (Nat.le_refl _) h.2.2.2
  cases h1
  exact ⟨_, l, _, e, _, b, rfl, h2, h3, h4, h5, h6⟩
end Go.Proofs.YtegclofijaoajaaGreat
