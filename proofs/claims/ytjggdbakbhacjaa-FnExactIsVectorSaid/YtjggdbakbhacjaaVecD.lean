/- Lists of fractions as data: the operations as functions of them. No program is named here. -/
import Derived.Test.YtjggdbakbhacjaaVecMem2
import Derived.Test.YtjggdbakbhacjaaRatS2
namespace Go.Proofs.Ytjggdbakbhacjaa
set_option maxRecDepth 100000
open Go.RowKit

def RD.ok (r : RD) : Prop := ROk r.g r.xs r.ds
def RD.zero : RD := ⟨false, [], []⟩
theorem RD.zero_bad : ¬ RD.zero.ok := fun h => by have := h.2.2.1; simp [RD.zero, val] at this
/-- At most 24 valid fractions. -/
def VOk (rs : List RD) : Prop := rs.length ≤ 24 ∧ ∀ r ∈ rs, r.ok
theorem RD.ok.fits {r : RD} (h : r.ok) : r.fits := ⟨⟨by have := h.2.2.2.2.1; omega, by have := h.2.2.2.2.2; omega⟩, limbs_bd h.1.1.1.1, limbs_bd h.2.1.1.1⟩
theorem RD.zero_fits : RD.zero.fits := ⟨⟨by simp [RD.zero], by simp [RD.zero]⟩, by simp [RD.zero], by simp [RD.zero]⟩
theorem VOk.fits {rs : List RD} (h : VOk rs) : ∀ r ∈ rs, r.fits := fun r hr => (h.2 r hr).fits
/-- The fraction of which Q holds, if there is one. -/
noncomputable def pickR (Q : Bool → List Int → List Int → Prop) : RD := open Classical in if h : ∃ r : RD, Q r.g r.xs r.ds then h.choose else RD.zero
theorem pickR_of {Q : Bool → List Int → List Int → Prop} (u : ∀ {g g' l l' d d'}, Q g l d → Q g' l' d' → g = g' ∧ l = l' ∧ d = d') {g : Bool} {l d : List Int} (h : Q g l d) : RD.mk g l d = pickR Q := by
  have hx : ∃ r : RD, Q r.g r.xs r.ds := ⟨⟨g, l, d⟩, h⟩
  unfold pickR
  rw [dif_pos hx]
  obtain ⟨rfl, rfl, rfl⟩ := u h hx.choose_spec
  rfl
noncomputable def radd (r s : RD) : RD := pickR (RatAddIs r.g r.xs r.ds s.g s.xs s.ds)
noncomputable def rsub (r s : RD) : RD := pickR (RatSubIs r.g r.xs r.ds s.g s.xs s.ds)
noncomputable def rmul (r s : RD) : RD := pickR (RatMulIs r.g r.xs r.ds s.g s.xs s.ds)
noncomputable def rint (n : Int) : RD := pickR (RatFromIntIs n)
theorem radd_of {r s : RD} {g : Bool} {l d : List Int} (h : RatAddIs r.g r.xs r.ds s.g s.xs s.ds g l d) : RD.mk g l d = radd r s := pickR_of ratAdd_unique h
theorem rsub_of {r s : RD} {g : Bool} {l d : List Int} (h : RatSubIs r.g r.xs r.ds s.g s.xs s.ds g l d) : RD.mk g l d = rsub r s := pickR_of ratSub_unique h
theorem rmul_of {r s : RD} {g : Bool} {l d : List Int} (h : RatMulIs r.g r.xs r.ds s.g s.xs s.ds g l d) : RD.mk g l d = rmul r s := pickR_of ratMul_unique h
theorem rint_of {n : Int} {g : Bool} {l d : List Int} (h : RatFromIntIs n g l d) : RD.mk g l d = rint n := pickR_of ratFromInt_unique h
/-- What an operation gives is a valid fraction or the zero value. -/
theorem rIs_ok {P : Prop} {N D : Int} {g : Bool} {l d : List Int} (h : RIs P N D g l d) : (RD.mk g l d).ok ∨ RD.mk g l d = RD.zero := by
  rcases h with ⟨_, ⟨_, h1, h2, h3, h4, _⟩, h5⟩ | ⟨_, rfl, rfl, rfl⟩
  · exact .inl ⟨h1, h2, h3, h4, h5⟩
  · exact .inr rfl
theorem good_fits {r : RD} (h : r.ok ∨ r = RD.zero) : r.fits := h.elim RD.ok.fits fun h => h ▸ RD.zero_fits
def IsVectorIs (rs : List RD) (b : Bool) : Prop := b = true ↔ VOk rs
theorem isVector_unique {rs : List RD} {b b' : Bool} (h : IsVectorIs rs b) (h' : IsVectorIs rs b') : b = b' := by
  unfold IsVectorIs at h h'
  rw [Bool.eq_iff_iff, h, h']
theorem isVec_no {rs : List RD} (h : ¬ VOk rs) : IsVectorIs rs false := by unfold IsVectorIs; simp [h]
theorem isVec_yes {rs : List RD} (h : VOk rs) : IsVectorIs rs true := by unfold IsVectorIs; simp [h]
def VOkEnd (rs : List RD) (w w' : World) (e : Ending) : Prop := ∃ b, e = .returned (.bool b) ∧ IsVectorIs rs b ∧ Below w.heap.size w w'
/-- The first i are valid. -/
def OkTo (rs : List RD) (i : Nat) : Prop := ∀ r ∈ rs.take i, r.ok
theorem OkTo.zero (rs : List RD) : OkTo rs 0 := by simp [OkTo]
theorem OkTo.succ {rs : List RD} {i : Nat} {r : RD} (h : OkTo rs i) (hr : rs[i]? = some r) (hk : r.ok) : OkTo rs (i + 1) := by
  obtain ⟨hlt, rfl⟩ := List.getElem?_eq_some_iff.1 hr
  intro x hx
  rw [List.take_succ_eq_append_getElem hlt] at hx
  rcases List.mem_append.1 hx with hx | hx
  · exact h x hx
  · obtain rfl := List.mem_singleton.1 hx; exact hk
theorem OkTo.all {rs : List RD} {n : Nat} (h : OkTo rs n) (hn : rs.length = n) (h24 : n ≤ 24) : VOk rs := ⟨by omega, fun r hr => h r (by rw [List.take_of_length_le (by omega)]; exact hr)⟩
theorem vok_at {rs : List RD} {i : Nat} {r : RD} (h : VOk rs) (hr : rs[i]? = some r) : r.ok := h.2 r (List.mem_of_getElem? hr)
end Go.Proofs.Ytjggdbakbhacjaa
