/- Small fractions as rational numbers: differences, quotients, signs. No program is named here. -/
import Derived.Test.YtkigfakfadoopaaGreatDoorAlg
namespace Go.Proofs.YtkigfakfadoopaaGreatDoor
set_option maxRecDepth 100000
open Go.RowKit

noncomputable def rdiv (r s : RD) : RD := pickR (RatDivIs r.g r.xs r.ds s.g s.xs s.ds)
theorem rdiv_spec (r s : RD) : RatDivIs r.g r.xs r.ds s.g s.xs s.ds (rdiv r s).g (rdiv r s).xs (rdiv r s).ds := pickR_spec _ _ _
theorem rsub_spec (r s : RD) : RatSubIs r.g r.xs r.ds s.g s.xs s.ds (rsub r s).g (rsub r s).xs (rsub r s).ds := pickR_spec _ _ _
theorem Sm.sub {q p : Rat} {B C E : Nat} {r s : RD} (h : Sm q B r) (k : Sm p C s) (hE : 2 * (B * C) ≤ E) (h24 : (E : Int) < pw 24) : Sm (q - p) E (rsub r s) := by
  have hr := h.ok.2.2.1
  have hs := k.ok.2.2.1
  refine sm_of (rsub_spec r s) ⟨h.ok, k.ok⟩ (Int.mul_pos hr hs) ?_ ?_ h24 ?_
  · have h1 : (bval r.g r.xs * val s.ds).natAbs ≤ B * C := by rw [Int.natAbs_mul]; exact Nat.mul_le_mul h.num (by have := k.den; omega)
    have h2 : (bval s.g s.xs * val r.ds).natAbs ≤ C * B := by rw [Int.natAbs_mul]; exact Nat.mul_le_mul k.num (by have := h.den; omega)
    have h3 := Nat.mul_comm C B
    omega
  · have h1 : val r.ds * val s.ds ≤ (B : Int) * (C : Int) := Int.mul_le_mul h.den k.den (by omega) (by omega)
    have h2 : ((B * C : Nat) : Int) = (B : Int) * (C : Int) := Int.natCast_mul _ _
    omega
  · have e1 := h.eq
    have e2 := k.eq
    rw [Rat.intCast_sub, Rat.intCast_mul, Rat.intCast_mul, Rat.intCast_mul, e1, e2]
    grind
theorem Sm.div {q p : Rat} {B C E : Nat} {r s : RD} (h : Sm q B r) (k : Sm p C s) (h0 : bval s.g s.xs ≠ 0) (hE : B * C ≤ E) (h24 : (E : Int) < pw 24) : Sm (q / p) E (rdiv r s) := by
  have hr := h.ok.2.2.1
  have hs := k.ok.2.2.1
  have e1 := h.eq
  have e2 := k.eq
  have hr' := cast_pos hr
  have hs' := cast_pos hs
  have hp : p ≠ 0 := fun e => by
    rw [e] at e2
    have : ((bval s.g s.xs : Int) : Rat) = 0 := by rw [e2]; grind
    exact h0 (by exact_mod_cast this)
  have hN : (bval r.g r.xs * val s.ds).natAbs ≤ B * C := by rw [Int.natAbs_mul]; exact Nat.mul_le_mul h.num (by have := k.den; omega)
  have hD : (bval s.g s.xs * val r.ds).natAbs ≤ C * B := by rw [Int.natAbs_mul]; exact Nat.mul_le_mul k.num (by have := h.den; omega)
  have h3 := Nat.mul_comm C B
  have hne : bval s.g s.xs * val r.ds ≠ 0 := Int.mul_ne_zero h0 (by omega)
  have hq : ((bval r.g r.xs * val s.ds : Int) : Rat) = q / p * ((bval s.g s.xs * val r.ds : Int) : Rat) := by
    rw [Rat.intCast_mul, Rat.intCast_mul, e1, e2]
    grind
  rcases Int.lt_or_gt_of_ne hne with hl | hl
  · refine sm_of (rIs_eq (rdiv_spec r s) hne (N' := -(bval r.g r.xs * val s.ds)) (D' := -(bval s.g s.xs * val r.ds)) (by omega) (by grind)) ⟨h.ok, k.ok⟩ (by omega) (by omega) (by omega) h24 ?_
    rw [Rat.intCast_neg, Rat.intCast_neg, hq]
    grind
  · exact sm_of (rdiv_spec r s) ⟨h.ok, k.ok⟩ hl (by omega) (by omega) h24 hq
theorem cmpV_scale {x y : Int} {u : Int} (hu : 0 < u) : cmpV (x * u) (y * u) = cmpV x y := by
  unfold cmpV
  have h1 : x * u < y * u ↔ x < y := Int.mul_lt_mul_right hu
  have h2 : x * u = y * u ↔ x = y := ⟨fun e => Int.eq_of_mul_eq_mul_right (by omega) e, fun e => by rw [e]⟩
  simp only [h1, h2]
/-- The sign of a difference is the comparison. -/
theorem sub_cmp {q p : Rat} {B C : Nat} {r s : RD} (h : Sm q B r) (k : Sm p C s) (hB : ((2 * (B * C) : Nat) : Int) < pw 24) : cmpV (bval (rsub r s).g (rsub r s).xs) 0 = cmpV (bval r.g r.xs * val s.ds) (bval s.g s.xs * val r.ds) := by
  have hr := h.ok.2.2.1
  have hs := k.ok.2.2.1
  have hd := (h.sub k (Nat.le_refl _) hB).ok
  have hl : RLow (bval r.g r.xs * val s.ds - bval s.g s.xs * val r.ds) (val r.ds * val s.ds) (rsub r s).g (rsub r s).xs (rsub r s).ds := by
    rcases rsub_spec r s with ⟨_, h1, _⟩ | ⟨_, h1, h2, h3⟩
    · exact h1
    · exfalso
      have := hd.2.2.1
      rw [h3] at this
      simp [val] at this
  obtain ⟨_, _, _, k3, _, k5⟩ := hl
  have hu := Int.mul_pos hr hs
  have e1 := cmpV_scale (x := bval (rsub r s).g (rsub r s).xs) (y := 0) hu
  have e2 := cmpV_scale (x := bval r.g r.xs * val s.ds - bval s.g s.xs * val r.ds) (y := 0) k3
  rw [← e1, k5, Int.zero_mul, ← Int.zero_mul (val (rsub r s).ds), e2]
  unfold cmpV
  have h1 : bval r.g r.xs * val s.ds - bval s.g s.xs * val r.ds < 0 ↔ bval r.g r.xs * val s.ds < bval s.g s.xs * val r.ds := by omega
  have h2 : bval r.g r.xs * val s.ds - bval s.g s.xs * val r.ds = 0 ↔ bval r.g r.xs * val s.ds = bval s.g s.xs * val r.ds := by omega
  simp only [h1, h2]
end Go.Proofs.YtkigfakfadoopaaGreatDoor
