/- What FnRats reckons, as data. No program is named here. -/
import Derived.Test.YtkigfakfadoopaaGreatDoorAlgR
import Derived.Test.YtkigfakfadoopaaGreatDoorGR
namespace Go.Proofs.YtkigfakfadoopaaGreatDoor
set_option maxRecDepth 100000
open Go.RowKit

theorem sg_cmp {g : Bool} {l : List Int} (h : BOk g l) : sg g l.length = cmpV (bval g l) 0 := by
  by_cases h0 : l = []
  · subst h0
    have hg : g = false := by
      cases g
      · rfl
      · exact absurd rfl (h.2 rfl)
    subst hg
    simp [sg, cmpV, bval, val]
  · have hp := (canon_ne h.1.1).2 h0
    have hl : l.length ≠ 0 := fun e => h0 (List.eq_nil_of_length_eq_zero e)
    cases g
    · simp only [bval]; rw [cmpV_gt (by simpa using hp)]; simp [sg, hl]
    · simp only [bval]; rw [cmpV_lt (by simp; omega)]; simp [sg]
structure FR (a b c s x p1 p2 y df : RD) : Prop where
  ka : a.ok
  kb : b.ok
  kc : c.ok
  rs : RatAddIs b.g b.xs b.ds c.g c.xs c.ds s.g s.xs s.ds
  rx : RatMulIs a.g a.xs a.ds s.g s.xs s.ds x.g x.xs x.ds
  r1 : RatMulIs a.g a.xs a.ds b.g b.xs b.ds p1.g p1.xs p1.ds
  r2 : RatMulIs a.g a.xs a.ds c.g c.xs c.ds p2.g p2.xs p2.ds
  ry : RatAddIs p1.g p1.xs p1.ds p2.g p2.xs p2.ds y.g y.xs y.ds
  ks : s.ok
  kx : x.ok
  k1 : p1.ok
  k2 : p2.ok
  ky : y.ok
  kd : df.ok
  xy : x = y
  rd : RatSubIs a.g a.xs a.ds b.g b.xs b.ds df.g df.xs df.ds
  sc : ∀ u v, RatSignIs df.g df.xs df.ds u → RatCmpIs a.g a.xs a.ds b.g b.xs b.ds v → u = v
  tx : ∀ t, FormatRatIs a.g a.xs a.ds t → ParseRatIs t a.g a.xs a.ds true
  sg : ∃ u, RatSignIs b.g b.xs b.ds u ∧ (((u == 0) = true ∧ bval b.g b.xs = 0) ∨ ((u == 0) = false ∧ bval b.g b.xs ≠ 0))
  dv : bval b.g b.xs ≠ 0 → ∃ q : RD, q.ok ∧ RatDivIs a.g a.xs a.ds b.g b.xs b.ds q.g q.xs q.ds ∧ RatMulIs q.g q.xs q.ds b.g b.xs b.ds a.g a.xs a.ds
theorem fr_ex {a b c : RD} (ha : Small 20 a) (hb : Small 20 b) (hc : Small 20 c) : ∃ s x p1 p2 y df, FR a b c s x p1 p2 y df := by
  obtain ⟨qa, sa⟩ := ha
  obtain ⟨qb, sb⟩ := hb
  obtain ⟨qc, sc⟩ := hc
  have s1 := sb.add sc (E := 800) (by decide) (by decide)
  have x1 := sa.mul s1 (E := 16000) (by decide) (by decide)
  have m1 := sa.mul sb (E := 400) (by decide) (by decide)
  have m2 := sa.mul sc (E := 400) (by decide) (by decide)
  have y1 := m1.add m2 (E := 320000) (by decide) (by decide)
  have d1 := sa.sub sb (E := 800) (by decide) (by decide)
  refine ⟨radd b c, rmul a (radd b c), rmul a b, rmul a c, radd (rmul a b) (rmul a c), rsub a b, sa.ok, sb.ok, sc.ok, radd_spec _ _, rmul_spec _ _, rmul_spec _ _, rmul_spec _ _, radd_spec _ _, s1.ok, x1.ok, m1.ok, m2.ok, y1.ok, d1.ok, ?_, rsub_spec _ _, ?_, ?_, ?_, ?_⟩
  · have e : qa * (qb + qc) = qa * qb + qa * qc := by grind
    rw [e] at x1
    exact x1.inj y1
  · intro u v hu hv
    rcases hu with ⟨_, rfl⟩ | ⟨hn, _⟩
    · rcases hv with ⟨_, rfl⟩ | ⟨hn, _⟩
      · rw [sg_cmp d1.ok.1]; exact sub_cmp sa sb (by decide)
      · exact absurd ⟨sa.ok, sb.ok⟩ hn
    · exact absurd d1.ok hn
  · intro t ht
    exact .inl ⟨rfl, parsed_of_text sa.ok ht⟩
  · refine ⟨_, .inl ⟨sb.ok, rfl⟩, ?_⟩
    rw [sg_cmp sb.ok.1]
    rcases Int.lt_trichotomy (bval b.g b.xs) 0 with h | h | h
    · exact .inr ⟨by rw [cmpV_lt h]; rfl, by omega⟩
    · exact .inl ⟨by rw [cmpV_eq h]; rfl, h⟩
    · exact .inr ⟨by rw [cmpV_gt h]; rfl, by omega⟩
  · intro h0
    have q1 := sa.div sb h0 (E := 400) (by decide) (by decide)
    have z1 := q1.mul sb (E := 8000) (by decide) (by decide)
    have hp : qb ≠ 0 := fun e => by
      have e2 := sb.eq
      rw [e] at e2
      have : ((bval b.g b.xs : Int) : Rat) = 0 := by rw [e2]; grind
      exact h0 (by exact_mod_cast this)
    have e : qa / qb * qb = qa := by grind
    rw [e] at z1
    have h := rmul_spec (rdiv a b) b
    rw [z1.inj sa] at h
    exact ⟨rdiv a b, q1.ok, rdiv_spec a b, h⟩
end Go.Proofs.YtkigfakfadoopaaGreatDoor
