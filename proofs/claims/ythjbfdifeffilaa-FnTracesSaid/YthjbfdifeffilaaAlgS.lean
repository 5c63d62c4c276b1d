/- The symmetric matrices that the model draws, told by their rational numbers. No program is named here. -/
import Derived.Test.YthjbfdifeffilaaAlgM
import Derived.Test.YthjbfdifeffilaaSym
namespace Go.Proofs.Ythjbfdifeffilaa
set_option maxRecDepth 100000
open Go.RowKit

theorem Sm.le {q : Rat} {B C : Nat} {r : RD} (h : Sm q B r) (hBC : B ≤ C) : Sm q C r := ⟨h.ok, h.eq, by have := h.num; omega, by have := h.den; omega⟩
theorem rat_sq (x : Rat) : 0 ≤ x * x := by
  rcases Rat.le_total (a := 0) (b := x) with h | h
  · exact Rat.mul_nonneg h h
  · have h1 : 0 ≤ -x := by grind
    have h2 := Rat.mul_nonneg h1 h1
    have e : -x * -x = x * x := by grind
    rw [e] at h2
    exact h2
/-- The rational numbers of a symmetric matrix with three rows: the products of the columns of a matrix of nine numbers, and positive numbers added in the diagonal. -/
structure SymV (B : Nat) (a b c d e f g h i x y z : Rat) (m0 m1 m2 m4 m5 m8 : RD) : Prop where
  px : 0 < x
  py : 0 < y
  pz : 0 < z
  s0 : Sm (a * a + d * d + g * g + x) B m0
  s1 : Sm (a * b + d * e + g * h) B m1
  s2 : Sm (a * c + d * f + g * i) B m2
  s4 : Sm (b * b + e * e + h * h + y) B m4
  s5 : Sm (b * c + e * f + h * i) B m5
  s8 : Sm (c * c + f * f + i * i + z) B m8
def SymQ (B : Nat) (rs : List RD) : Prop := ∃ (a b c d e f g h i x y z : Rat) (m0 m1 m2 m4 m5 m8 : RD), rs = [m0, m1, m2, m1, m4, m5, m2, m5, m8] ∧ SymV B a b c d e f g h i x y z m0 m1 m2 m4 m5 m8
theorem SymQ.length {B : Nat} {rs : List RD} (h : SymQ B rs) : rs.length = 9 := by
  obtain ⟨_, _, _, _, _, _, _, _, _, _, _, _, _, _, _, _, _, _, rfl, _⟩ := h
  rfl
theorem SymQ.ok {B : Nat} {rs : List RD} (h : SymQ B rs) : ∀ r ∈ rs, r.ok := by
  obtain ⟨_, _, _, _, _, _, _, _, _, _, _, _, _, _, _, _, _, _, rfl, h⟩ := h
  intro r hr
  have h0 := h.s0.ok
  have h1 := h.s1.ok
  have h2 := h.s2.ok
  have h4 := h.s4.ok
  have h5 := h.s5.ok
  have h8 := h.s8.ok
  simp at hr
  rcases hr with rfl | rfl | rfl | rfl | rfl | rfl | rfl | rfl | rfl <;> assumption
theorem SymQ.mok {B : Nat} {rs : List RD} (h : SymQ B rs) : MOk 3 3 rs := ⟨by omega, by omega, by rw [h.length]; rfl, h.ok⟩
theorem len9 {v : List RD} (h : v.length = 9) : ∃ a b c d e f g i j, v = [a, b, c, d, e, f, g, i, j] := by
  match v, h with
  | [a, b, c, d, e, f, g, i, j], _ => exact ⟨a, b, c, d, e, f, g, i, j, rfl⟩
/-- The product of a matrix's transpose and itself: what lies where, and that it is small. -/
structure TimesT (ra p : List RD) (a b c d e f g h i : Rat) (m0 m1 m2 m4 m5 m8 : RD) : Prop where
  eq : p = [m0, m1, m2, m1, m4, m5, m2, m5, m8]
  s0 : Sm (a * a + d * d + g * g) 512000000 m0
  s1 : Sm (a * b + d * e + g * h) 512000000 m1
  s2 : Sm (a * c + d * f + g * i) 512000000 m2
  s4 : Sm (b * b + e * e + h * h) 512000000 m4
  s5 : Sm (b * c + e * f + h * i) 512000000 m5
  s8 : Sm (c * c + f * f + i * i) 512000000 m8
theorem timesT {ra : List RD} (hl : ra.length = 9) (hs : ∀ r ∈ ra, Small 20 r) : ∃ a b c d e f g h i m0 m1 m2 m4 m5 m8, TimesT ra (mmul 3 3 3 (trans 3 3 ra) ra) a b c d e f g h i m0 m1 m2 m4 m5 m8 := by
  obtain ⟨a, b, c, d, e, f, g, h, i, rfl⟩ := len9 hl
  obtain ⟨qa, sa⟩ := hs a (by simp)
  obtain ⟨qb, sb⟩ := hs b (by simp)
  obtain ⟨qc, sc⟩ := hs c (by simp)
  obtain ⟨qd, sd⟩ := hs d (by simp)
  obtain ⟨qe, se⟩ := hs e (by simp)
  obtain ⟨qf, sf⟩ := hs f (by simp)
  obtain ⟨qg, sg⟩ := hs g (by simp)
  obtain ⟨qh, sh⟩ := hs h (by simp)
  obtain ⟨qi, si⟩ := hs i (by simp)
  have e1 : mmul 3 3 3 (trans 3 3 [a, b, c, d, e, f, g, h, i]) [a, b, c, d, e, f, g, h, i] = [rinner [a, d, g] [a, d, g], rinner [a, d, g] [b, e, h], rinner [a, d, g] [c, f, i], rinner [b, e, h] [a, d, g], rinner [b, e, h] [b, e, h], rinner [b, e, h] [c, f, i], rinner [c, f, i] [a, d, g], rinner [c, f, i] [b, e, h], rinner [c, f, i] [c, f, i]] := rfl
  refine ⟨qa, qb, qc, qd, qe, qf, qg, qh, qi, rinner [a, d, g] [a, d, g], rinner [a, d, g] [b, e, h], rinner [a, d, g] [c, f, i], rinner [b, e, h] [b, e, h], rinner [b, e, h] [c, f, i], rinner [c, f, i] [c, f, i], ?_, ?_, ?_, ?_, ?_, ?_, ?_⟩
  · rw [e1, rinner_comm [b, e, h] [a, d, g], rinner_comm [c, f, i] [a, d, g], rinner_comm [c, f, i] [b, e, h]]
  · exact in3 sa sd sg sa sd sg rfl (by decide) (by decide) (by decide) (by decide)
  · exact in3 sa sd sg sb se sh rfl (by decide) (by decide) (by decide) (by decide)
  · exact in3 sa sd sg sc sf si rfl (by decide) (by decide) (by decide) (by decide)
  · exact in3 sb se sh sb se sh rfl (by decide) (by decide) (by decide) (by decide)
  · exact in3 sb se sh sc sf si rfl (by decide) (by decide) (by decide) (by decide)
  · exact in3 sc sf si sc sf si rfl (by decide) (by decide) (by decide) (by decide)
/-- A positive number of at most 20 over at most 20. -/
def Pos20 (r : RD) : Prop := ∃ q : Rat, 0 < q ∧ Sm q 20 r
theorem pos_of {N D : Int} {g : Bool} {l d : List Int} (h : RIs True N D g l d) (hN : 0 < N ∧ N ≤ 20) (hD : 0 < D ∧ D ≤ 20) : Pos20 ⟨g, l, d⟩ := by
  refine ⟨(N : Rat) / (D : Rat), ?_, sm_of (r := ⟨g, l, d⟩) h trivial hD.1 (by omega) (by omega) (by decide) (by have := cast_pos hD.1; grind)⟩
  have h1 : (0 : Rat) < (N : Rat) := by exact_mod_cast hN.1
  have h2 : (0 : Rat) < (D : Rat) := by exact_mod_cast hD.1
  rw [Rat.div_def]
  exact Rat.mul_pos h1 (Rat.inv_pos.2 h2)
/-- The matrix behind the first n additions in the diagonal. -/
noncomputable def addD (p ds : List RD) : Nat → List RD
  | 0 => p
  | n + 1 => (addD p ds n).set (n * 3 + n) (radd (((addD p ds n)[n * 3 + n]?).getD RD.zero) ((ds[n]?).getD RD.zero))
theorem addD_length (p ds : List RD) : ∀ n, (addD p ds n).length = p.length
  | 0 => rfl
  | n + 1 => by simp [addD, addD_length p ds n]
theorem symQ_of {ra ds : List RD} (hl : ra.length = 9) (hs : ∀ r ∈ ra, Small 20 r) (hd : ds.length = 3) (hp : ∀ r ∈ ds, Pos20 r) : SymQ 20480000000 (addD (mmul 3 3 3 (trans 3 3 ra) ra) ds 3) := by
  obtain ⟨a, b, c, d, e, f, g, h, i, m0, m1, m2, m4, m5, m8, ht⟩ := timesT hl hs
  match ds, hd with
  | [u, v, t], _ =>
    obtain ⟨x, px, sx⟩ := hp u (by simp)
    obtain ⟨y, py, sy⟩ := hp v (by simp)
    obtain ⟨z, pz, sz⟩ := hp t (by simp)
    rw [ht.eq]
    refine ⟨a, b, c, d, e, f, g, h, i, x, y, z, radd m0 u, m1, m2, radd m4 v, m5, radd m8 t, rfl, px, py, pz, ?_, ht.s1.le (by decide), ht.s2.le (by decide), ?_, ht.s5.le (by decide), ?_⟩
    · exact ht.s0.add sx (by decide) (by decide)
    · exact ht.s4.add sy (by decide) (by decide)
    · exact ht.s8.add sz (by decide) (by decide)
/-- The trace is there. -/
theorem symQ_trace {rs : List RD} (h : SymQ 20480000000 rs) : (rsum (diag 3 rs) 3).ok := by
  obtain ⟨a, b, c, d, e, f, g, h, i, x, y, z, m0, m1, m2, m4, m5, m8, rfl, h⟩ := h
  have e1 : rsum (diag 3 [m0, m1, m2, m1, m4, m5, m2, m5, m8]) 3 = radd (radd (radd (rint 0) m0) m4) m8 := rfl
  rw [e1]
  have t0 := sm_zero.add h.s0 (Nat.le_refl _) (by decide)
  have t1 := t0.add h.s4 (Nat.le_refl _) (by decide)
  have t2 := t1.add h.s8 (Nat.le_refl _) (by decide)
  exact t2.ok
end Go.Proofs.Ythjbfdifeffilaa
