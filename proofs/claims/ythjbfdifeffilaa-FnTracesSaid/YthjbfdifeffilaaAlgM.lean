/- The algebra of small matrices, by the rational numbers. No program is named here. -/
import Derived.Test.YthjbfdifeffilaaAlg
import Derived.Test.YthjbfdifeffilaaMat
namespace Go.Proofs.Ythjbfdifeffilaa
set_option maxRecDepth 100000
open Go.RowKit

theorem in2 {q0 q1 p0 p1 : Rat} {B C E : Nat} {a0 a1 b0 b1 : RD} (h0 : Sm q0 B a0) (h1 : Sm q1 B a1) (k0 : Sm p0 C b0) (k1 : Sm p1 C b1) (hE : E = 2 * (2 * (1 * (B * C)) * (B * C))) (h24 : (E : Int) < pw 24) (hm : ((B * C : Nat) : Int) < pw 24) (hm2 : ((2 * (1 * (B * C)) : Nat) : Int) < pw 24) :
    Sm (q0 * p0 + q1 * p1) E (rinner [a0, a1] [b0, b1]) := by
  have m0 := h0.mul k0 (Nat.le_refl _) hm
  have m1 := h1.mul k1 (Nat.le_refl _) hm
  have s0 := sm_zero.add m0 (Nat.le_refl _) hm2
  have s1 := s0.add m1 (Nat.le_of_eq hE.symm) h24
  have e : 0 + q0 * p0 + q1 * p1 = q0 * p0 + q1 * p1 := by grind
  rw [e] at s1
  exact s1
theorem in3 {q0 q1 q2 p0 p1 p2 : Rat} {B C E : Nat} {a0 a1 a2 b0 b1 b2 : RD} (h0 : Sm q0 B a0) (h1 : Sm q1 B a1) (h2 : Sm q2 B a2) (k0 : Sm p0 C b0) (k1 : Sm p1 C b1) (k2 : Sm p2 C b2) (hE : E = 2 * (2 * (2 * (1 * (B * C)) * (B * C)) * (B * C))) (h24 : (E : Int) < pw 24) (hm : ((B * C : Nat) : Int) < pw 24) (hm2 : ((2 * (1 * (B * C)) : Nat) : Int) < pw 24) (hm3 : ((2 * (2 * (1 * (B * C)) * (B * C)) : Nat) : Int) < pw 24) :
    Sm (q0 * p0 + q1 * p1 + q2 * p2) E (rinner [a0, a1, a2] [b0, b1, b2]) := by
  have m2 := h2.mul k2 (Nat.le_refl _) hm
  have s1 := in2 h0 h1 k0 k1 rfl hm3 hm hm2
  have s2 := s1.add m2 (Nat.le_of_eq hE.symm) h24
  exact s2
theorem len2 {v : List RD} (h : v.length = 2) : ∃ a b, v = [a, b] := by
  match v, h with
  | [a, b], _ => exact ⟨a, b, rfl⟩
theorem len6 {v : List RD} (h : v.length = 6) : ∃ a b c d e f, v = [a, b, c, d, e, f] := by
  match v, h with
  | [a, b, c, d, e, f], _ => exact ⟨a, b, c, d, e, f, rfl⟩
theorem mat_law {a b v : List RD} (ha : a.length = 6) (hb : b.length = 6) (hv : v.length = 2) (sa : ∀ r ∈ a, Small 20 r) (sb : ∀ r ∈ b, Small 20 r) (sv : ∀ r ∈ v, Small 20 r) :
    (∀ x ∈ mmul 2 3 2 a b, x.ok) ∧ (∀ x ∈ mmul 2 3 2 (trans 3 2 b) (trans 2 3 a), x.ok) ∧ (∀ x ∈ mapp 2 2 (mmul 2 3 2 a b) v, x.ok) ∧ (∀ x ∈ mapp 3 2 b v, x.ok) ∧ (∀ x ∈ mapp 2 3 a (mapp 3 2 b v), x.ok) ∧
    mapp 2 2 (mmul 2 3 2 a b) v = mapp 2 3 a (mapp 3 2 b v) ∧ trans 2 2 (mmul 2 3 2 a b) = mmul 2 3 2 (trans 3 2 b) (trans 2 3 a) ∧ mrow 3 a 1 = a.drop 3 := by
  obtain ⟨a0, a1, a2, a3, a4, a5, rfl⟩ := len6 ha
  obtain ⟨b0, b1, b2, b3, b4, b5, rfl⟩ := len6 hb
  obtain ⟨v0, v1, rfl⟩ := len2 hv
  obtain ⟨qa0, sa0⟩ := sa a0 (by simp)
  obtain ⟨qa1, sa1⟩ := sa a1 (by simp)
  obtain ⟨qa2, sa2⟩ := sa a2 (by simp)
  obtain ⟨qa3, sa3⟩ := sa a3 (by simp)
  obtain ⟨qa4, sa4⟩ := sa a4 (by simp)
  obtain ⟨qa5, sa5⟩ := sa a5 (by simp)
  obtain ⟨qb0, sb0⟩ := sb b0 (by simp)
  obtain ⟨qb1, sb1⟩ := sb b1 (by simp)
  obtain ⟨qb2, sb2⟩ := sb b2 (by simp)
  obtain ⟨qb3, sb3⟩ := sb b3 (by simp)
  obtain ⟨qb4, sb4⟩ := sb b4 (by simp)
  obtain ⟨qb5, sb5⟩ := sb b5 (by simp)
  obtain ⟨qv0, sv0⟩ := sv v0 (by simp)
  obtain ⟨qv1, sv1⟩ := sv v1 (by simp)
  have e1 : mmul 2 3 2 [a0, a1, a2, a3, a4, a5] [b0, b1, b2, b3, b4, b5] = [rinner [a0, a1, a2] [b0, b2, b4], rinner [a0, a1, a2] [b1, b3, b5], rinner [a3, a4, a5] [b0, b2, b4], rinner [a3, a4, a5] [b1, b3, b5]] := rfl
  have e2 : mmul 2 3 2 (trans 3 2 [b0, b1, b2, b3, b4, b5]) (trans 2 3 [a0, a1, a2, a3, a4, a5]) = [rinner [b0, b2, b4] [a0, a1, a2], rinner [b0, b2, b4] [a3, a4, a5], rinner [b1, b3, b5] [a0, a1, a2], rinner [b1, b3, b5] [a3, a4, a5]] := rfl
  have e3 : ∀ c0 c1 c2 c3, mapp 2 2 [c0, c1, c2, c3] [v0, v1] = [rinner [c0, c1] [v0, v1], rinner [c2, c3] [v0, v1]] := fun _ _ _ _ => rfl
  have e4 : mapp 3 2 [b0, b1, b2, b3, b4, b5] [v0, v1] = [rinner [b0, b1] [v0, v1], rinner [b2, b3] [v0, v1], rinner [b4, b5] [v0, v1]] := rfl
  have e5 : ∀ y0 y1 y2, mapp 2 3 [a0, a1, a2, a3, a4, a5] [y0, y1, y2] = [rinner [a0, a1, a2] [y0, y1, y2], rinner [a3, a4, a5] [y0, y1, y2]] := fun _ _ _ => rfl
  have e6 : ∀ c0 c1 c2 c3, trans 2 2 [c0, c1, c2, c3] = [c0, c2, c1, c3] := fun _ _ _ _ => rfl
  have c00 := in3 sa0 sa1 sa2 sb0 sb2 sb4 rfl (by decide) (by decide) (by decide) (by decide)
  have c01 := in3 sa0 sa1 sa2 sb1 sb3 sb5 rfl (by decide) (by decide) (by decide) (by decide)
  have c10 := in3 sa3 sa4 sa5 sb0 sb2 sb4 rfl (by decide) (by decide) (by decide) (by decide)
  have c11 := in3 sa3 sa4 sa5 sb1 sb3 sb5 rfl (by decide) (by decide) (by decide) (by decide)
  have x0 := in2 c00 c01 sv0 sv1 rfl (by decide) (by decide) (by decide)
  have x1 := in2 c10 c11 sv0 sv1 rfl (by decide) (by decide) (by decide)
  have y0 := in2 sb0 sb1 sv0 sv1 rfl (by decide) (by decide) (by decide)
  have y1 := in2 sb2 sb3 sv0 sv1 rfl (by decide) (by decide) (by decide)
  have y2 := in2 sb4 sb5 sv0 sv1 rfl (by decide) (by decide) (by decide)
  have z0 := in3 sa0 sa1 sa2 y0 y1 y2 rfl (by decide) (by decide) (by decide) (by decide)
  have z1 := in3 sa3 sa4 sa5 y0 y1 y2 rfl (by decide) (by decide) (by decide) (by decide)
  rw [e1, e2, e3, e4, e5, e6, rinner_comm [b0, b2, b4] [a0, a1, a2], rinner_comm [b0, b2, b4] [a3, a4, a5], rinner_comm [b1, b3, b5] [a0, a1, a2], rinner_comm [b1, b3, b5] [a3, a4, a5]]
  refine ⟨?_, ?_, ?_, ?_, ?_, ?_, rfl, rfl⟩
  · simp; exact ⟨c00.ok, c01.ok, c10.ok, c11.ok⟩
  · simp; exact ⟨c00.ok, c10.ok, c01.ok, c11.ok⟩
  · simp; exact ⟨x0.ok, x1.ok⟩
  · simp; exact ⟨y0.ok, y1.ok, y2.ok⟩
  · simp; exact ⟨z0.ok, z1.ok⟩
  · have w0 := x0.inj (s := rinner [a0, a1, a2] [rinner [b0, b1] [v0, v1], rinner [b2, b3] [v0, v1], rinner [b4, b5] [v0, v1]]) (by
      have h := z0
      rw [show qa0 * (qb0 * qv0 + qb1 * qv1) + qa1 * (qb2 * qv0 + qb3 * qv1) + qa2 * (qb4 * qv0 + qb5 * qv1) = (qa0 * qb0 + qa1 * qb2 + qa2 * qb4) * qv0 + (qa0 * qb1 + qa1 * qb3 + qa2 * qb5) * qv1 by grind] at h
      exact h)
    have w1 := x1.inj (s := rinner [a3, a4, a5] [rinner [b0, b1] [v0, v1], rinner [b2, b3] [v0, v1], rinner [b4, b5] [v0, v1]]) (by
      have h := z1
      rw [show qa3 * (qb0 * qv0 + qb1 * qv1) + qa4 * (qb2 * qv0 + qb3 * qv1) + qa5 * (qb4 * qv0 + qb5 * qv1) = (qa3 * qb0 + qa4 * qb2 + qa5 * qb4) * qv0 + (qa3 * qb1 + qa4 * qb3 + qa5 * qb5) * qv1 by grind] at h
      exact h)
    rw [w0, w1]
end Go.Proofs.Ythjbfdifeffilaa
