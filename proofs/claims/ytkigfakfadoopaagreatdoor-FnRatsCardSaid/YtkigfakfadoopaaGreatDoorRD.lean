/- Fractions as data, for a seat without lists of fractions (as in VecD, VecB). No program is named here. -/
import Derived.Test.YtkigfakfadoopaaGreatDoorGF
namespace Go.Proofs.YtkigfakfadoopaaGreatDoor
set_option maxRecDepth 100000
open Go.RowKit

def RD.ok (r : RD) : Prop := ROk r.g r.xs r.ds
def RD.zero : RD := ⟨false, [], []⟩
theorem RD.zero_bad : ¬ RD.zero.ok := fun h => by have := h.2.2.1; simp [RD.zero, val] at this
/-- The fraction of which Q holds, if there is one. -/
noncomputable def pickR (Q : Bool → List Int → List Int → Prop) : RD := open Classical in if h : ∃ r : RD, Q r.g r.xs r.ds then h.choose else RD.zero
theorem pickR_of {Q : Bool → List Int → List Int → Prop} (u : ∀ {g g' l l' d d'}, Q g l d → Q g' l' d' → g = g' ∧ l = l' ∧ d = d') {g : Bool} {l d : List Int} (h : Q g l d) : RD.mk g l d = pickR Q := by
  have hx : ∃ r : RD, Q r.g r.xs r.ds := ⟨⟨g, l, d⟩, h⟩
  unfold pickR
  rw [dif_pos hx]
  obtain ⟨rfl, rfl, rfl⟩ := u h hx.choose_spec
  rfl
noncomputable def radd (r s : RD) : RD := pickR (RatAddIs r.g r.xs r.ds s.g s.xs s.ds)
noncomputable def rsub (r s : RD) : RD := pickR (RatSubIs r.g r.xs r.ds s.g s.xs s.ds)
noncomputable def rmul (r s : RD) : RD := pickR (RatMulIs r.g r.xs r.ds s.g s.xs s.ds)
noncomputable def rint (n : Int) : RD := pickR (RatFromIntIs n)
theorem radd_of {r s : RD} {g : Bool} {l d : List Int} (h : RatAddIs r.g r.xs r.ds s.g s.xs s.ds g l d) : RD.mk g l d = radd r s := pickR_of ratAdd_unique h
theorem rsub_of {r s : RD} {g : Bool} {l d : List Int} (h : RatSubIs r.g r.xs r.ds s.g s.xs s.ds g l d) : RD.mk g l d = rsub r s := pickR_of ratSub_unique h
theorem rmul_of {r s : RD} {g : Bool} {l d : List Int} (h : RatMulIs r.g r.xs r.ds s.g s.xs s.ds g l d) : RD.mk g l d = rmul r s := pickR_of ratMul_unique h
theorem rint_of {n : Int} {g : Bool} {l d : List Int} (h : RatFromIntIs n g l d) : RD.mk g l d = rint n := pickR_of ratFromInt_unique h
theorem rIs_ex (P : Prop) (N D : Int) : ∃ r : RD, RIs P N D r.g r.xs r.ds := by
  classical
  by_cases h : P ∧ ∃ g l d, RLow N D g l d ∧ Short l d
  · obtain ⟨hp, g, l, d, h1, h2⟩ := h
    exact ⟨⟨g, l, d⟩, .inl ⟨hp, h1, h2⟩⟩
  · exact ⟨RD.zero, .inr ⟨h, rfl, rfl, rfl⟩⟩
theorem pickR_spec (P : Prop) (N D : Int) : RIs P N D (pickR (RIs P N D)).g (pickR (RIs P N D)).xs (pickR (RIs P N D)).ds := by
  have h := rIs_ex P N D
  unfold pickR
  rw [dif_pos h]
  exact h.choose_spec
theorem radd_spec (r s : RD) : RatAddIs r.g r.xs r.ds s.g s.xs s.ds (radd r s).g (radd r s).xs (radd r s).ds := pickR_spec _ _ _
theorem rmul_spec (r s : RD) : RatMulIs r.g r.xs r.ds s.g s.xs s.ds (rmul r s).g (rmul r s).xs (rmul r s).ds := pickR_spec _ _ _
end Go.Proofs.YtkigfakfadoopaaGreatDoor
