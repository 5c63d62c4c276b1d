/- Small fractions as rational numbers: the operations are exact, and a fraction is told by its value. No program is named here. -/
import Derived.Test.YthjbfdifeffilaaVecB
namespace Go.Proofs.Ythjbfdifeffilaa
set_option maxRecDepth 100000
open Go.RowKit

theorem canon_ex : ∀ n : Nat, ∃ l, Canon l ∧ val l = (n : Int) := by
  intro n
  induction n using Nat.strongRecOn with
  | ind n ih =>
    by_cases h0 : n = 0
    · subst h0; exact ⟨[], canon_nil, rfl⟩
    · obtain ⟨l, hl, hv⟩ := ih (n / 1000000000) (Nat.div_lt_self (by omega) (by omega))
      refine ⟨((n % 1000000000 : Nat) : Int) :: l, ⟨?_, ?_⟩, ?_⟩
      · intro d hd
        rcases List.mem_cons.1 hd with rfl | hd
        · have := Nat.mod_lt n (show 0 < 1000000000 by omega)
          omega
        · exact hl.1 d hd
      · cases l with
        | nil =>
          simp [val] at hv
          simp
          omega
        | cons x r => rw [List.getLast?_cons_cons]; exact hl.2
      · simp only [val, hv]; omega
theorem rlow_ex {N D : Int} (hD : 0 < D) (hN24 : (N.natAbs : Int) < pw 24) (hD24 : D < pw 24) : ∃ g l d, RLow N D g l d ∧ Short l d := by
  obtain ⟨G, hG⟩ : ∃ G, G = Int.gcd N D := ⟨_, rfl⟩
  have hG0 : 0 < G := by rw [hG]; exact Int.gcd_pos_of_ne_zero_right _ (by omega)
  obtain ⟨a, ha⟩ : G ∣ N.natAbs := by rw [hG]; exact Nat.gcd_dvd_left _ _
  obtain ⟨b, hb⟩ : G ∣ D.natAbs := by rw [hG]; exact Nat.gcd_dvd_right _ _
  have hab : Nat.gcd a b = 1 := by
    have h1 : Nat.gcd (G * a) (G * b) = G := by rw [← ha, ← hb, hG]; rfl
    rw [Nat.gcd_mul_left] at h1
    exact Nat.eq_of_mul_eq_mul_left hG0 (by rw [h1, Nat.mul_one])
  have haN : a ≤ N.natAbs := by rw [ha]; exact Nat.le_mul_of_pos_left _ hG0
  have hbD : b ≤ D.natAbs := by rw [hb]; exact Nat.le_mul_of_pos_left _ hG0
  have hb0 : 0 < b := by
    rcases Nat.eq_zero_or_pos b with h | h
    · subst h; rw [Nat.mul_zero] at hb; omega
    · exact h
  obtain ⟨l, hl, hlv⟩ := canon_ex a
  obtain ⟨d, hd, hdv⟩ := canon_ex b
  have hl24 : l.length ≤ 24 := short_of hl (by rw [hlv]; omega)
  have hd24 : d.length ≤ 24 := short_of hd (by rw [hdv]; omega)
  refine ⟨decide (N < 0), l, d, ⟨by omega, ⟨⟨hl, by omega⟩, ?_⟩, ⟨hd, by omega⟩, by rw [hdv]; omega, by rw [hlv, hdv]; exact hab, ?_⟩, hl24, hd24⟩
  · intro h e
    subst e
    simp [val] at hlv
    simp at h
    rw [show a = 0 by omega, Nat.mul_zero] at ha
    omega
  · have hD2 : D = (G : Int) * b := by have : (D.natAbs : Int) = D := by omega
                                       rw [← this, hb]; exact Int.natCast_mul _ _
    rw [hdv]
    by_cases hn : N < 0
    · have hN2 : N = - ((G : Int) * a) := by have h1 : (N.natAbs : Int) = - N := by omega
                                             have h2 : (N.natAbs : Int) = (G : Int) * a := by rw [ha]; exact Int.natCast_mul _ _
                                             omega
      simp only [bval, hn, decide_true, if_true, hlv]
      rw [hD2, hN2]
      grind
    · have hN2 : N = (G : Int) * a := by have h1 : (N.natAbs : Int) = N := by omega
                                         have h2 : (N.natAbs : Int) = (G : Int) * a := by rw [ha]; exact Int.natCast_mul _ _
                                         omega
      simp only [bval, hn, decide_false, hlv]
      rw [hD2, hN2]
      simp
      grind

/-- r is the fraction q, with numerator and denominator of at most B. -/
structure Sm (q : Rat) (B : Nat) (r : RD) : Prop where
  ok : r.ok
  eq : ((bval r.g r.xs : Int) : Rat) = q * ((val r.ds : Int) : Rat)
  num : (bval r.g r.xs).natAbs ≤ B
  den : val r.ds ≤ (B : Int)
theorem cast_pos {z : Int} (h : 0 < z) : ((z : Int) : Rat) ≠ 0 := by
  intro e
  have : z = 0 := by exact_mod_cast e
  omega
theorem sm_of {P : Prop} {N D : Int} {B : Nat} {r : RD} {q : Rat} (h : RIs P N D r.g r.xs r.ds) (hp : P) (hD : 0 < D) (hN : N.natAbs ≤ B) (hB : D ≤ (B : Int)) (h24 : (B : Int) < pw 24) (hq : (N : Rat) = q * (D : Rat)) : Sm q B r := by
  obtain ⟨h1, h2⟩ : RLow N D r.g r.xs r.ds ∧ Short r.xs r.ds := by
    rcases h with ⟨_, h1, h2⟩ | ⟨hn, _⟩
    · exact ⟨h1, h2⟩
    · exact absurd ⟨hp, rlow_ex hD (by omega) (by omega)⟩ hn
  obtain ⟨k0, k1, k2, k3, k4, k5⟩ := h1
  have hdv : val r.ds ∣ D := cross_dvd (n := bval r.g r.xs) (n' := N) (by rw [gcd_bval]; exact k4) k5
  have hle : val r.ds ≤ D := Int.le_of_dvd hD hdv
  refine ⟨⟨k1, k2, k3, k4, h2⟩, ?_, ?_, by omega⟩
  · have e : ((bval r.g r.xs : Int) : Rat) * (D : Rat) = (N : Rat) * ((val r.ds : Int) : Rat) := by exact_mod_cast k5
    have hD' := cast_pos hD
    rw [hq] at e
    grind
  · obtain ⟨t, ht⟩ := hdv
    have e2 : bval r.g r.xs * t = N := by
      refine Int.eq_of_mul_eq_mul_right (show val r.ds ≠ 0 by omega) ?_
      rw [← k5, ht]
      grind
    have ht0 : 0 < t := by
      rcases Int.lt_trichotomy t 0 with h | h | h
      · have := Int.mul_neg_of_pos_of_neg k3 h; omega
      · subst h; rw [Int.mul_zero] at ht; omega
      · exact h
    have : (bval r.g r.xs).natAbs * t.natAbs = N.natAbs := by rw [← e2, Int.natAbs_mul]
    have h3 : (bval r.g r.xs).natAbs ≤ (bval r.g r.xs).natAbs * t.natAbs := Nat.le_mul_of_pos_right _ (by omega)
    omega
theorem Sm.inj {q : Rat} {B C : Nat} {r s : RD} (h : Sm q B r) (k : Sm q C s) : r = s := by
  have hr := h.ok.2.2.1
  have hs := k.ok.2.2.1
  have e : bval r.g r.xs * val s.ds = bval s.g s.xs * val r.ds := by
    have e1 := h.eq
    have e2 := k.eq
    have : ((bval r.g r.xs : Int) : Rat) * ((val s.ds : Int) : Rat) = ((bval s.g s.xs : Int) : Rat) * ((val r.ds : Int) : Rat) := by rw [e1, e2]; grind
    exact_mod_cast this
  have h1 : RLow (bval r.g r.xs) (val r.ds) r.g r.xs r.ds := ROk.low h.ok
  have h2 : RLow (bval r.g r.xs) (val r.ds) s.g s.xs s.ds := rlow_eq (ROk.low k.ok) (by omega) e.symm
  obtain ⟨a, b, c⟩ := rlow_unique h1 h2
  cases r; cases s
  simp at a b c
  subst a b c
  rfl
theorem Sm.mul {q p : Rat} {B C E : Nat} {r s : RD} (h : Sm q B r) (k : Sm p C s) (hE : B * C ≤ E) (h24 : (E : Int) < pw 24) : Sm (q * p) E (rmul r s) := by
  have hr := h.ok.2.2.1
  have hs := k.ok.2.2.1
  refine sm_of (rmul_spec r s) ⟨h.ok, k.ok⟩ (Int.mul_pos hr hs) ?_ ?_ h24 ?_
  · rw [Int.natAbs_mul]; exact Nat.le_trans (Nat.mul_le_mul h.num k.num) hE
  · have h1 : val r.ds * val s.ds ≤ (B : Int) * (C : Int) := Int.mul_le_mul h.den k.den (by omega) (by omega)
    have h2 : ((B * C : Nat) : Int) = (B : Int) * (C : Int) := Int.natCast_mul _ _
    omega
  · have e1 := h.eq
    have e2 := k.eq
    rw [Rat.intCast_mul, Rat.intCast_mul, e1, e2]
    grind
theorem Sm.add {q p : Rat} {B C E : Nat} {r s : RD} (h : Sm q B r) (k : Sm p C s) (hE : 2 * (B * C) ≤ E) (h24 : (E : Int) < pw 24) : Sm (q + p) E (radd r s) := by
  have hr := h.ok.2.2.1
  have hs := k.ok.2.2.1
  refine sm_of (radd_spec r s) ⟨h.ok, k.ok⟩ (Int.mul_pos hr hs) ?_ ?_ h24 ?_
  · have h1 : (bval r.g r.xs * val s.ds).natAbs ≤ B * C := by rw [Int.natAbs_mul]; exact Nat.mul_le_mul h.num (by have := k.den; omega)
    have h2 : (bval s.g s.xs * val r.ds).natAbs ≤ C * B := by rw [Int.natAbs_mul]; exact Nat.mul_le_mul k.num (by have := h.den; omega)
    have h3 := Nat.mul_comm C B
    omega
  · have h1 : val r.ds * val s.ds ≤ (B : Int) * (C : Int) := Int.mul_le_mul h.den k.den (by omega) (by omega)
    have h2 : ((B * C : Nat) : Int) = (B : Int) * (C : Int) := Int.natCast_mul _ _
    omega
  · have e1 := h.eq
    have e2 := k.eq
    rw [Rat.intCast_add, Rat.intCast_mul, Rat.intCast_mul, Rat.intCast_mul, e1, e2]
    grind
theorem sm_zero : Sm 0 1 (rint 0) := sm_of (P := True) (N := 0) (D := 1) (pickR_spec _ _ _) trivial (by omega) (by simp) (by simp) (by decide) (by simp)
/-- A small number. -/
def Small (B : Nat) (r : RD) : Prop := ∃ q, Sm q B r
theorem small_of {N D : Int} {g : Bool} {l d : List Int} (h : RIs True N D g l d) (hN : -20 ≤ N ∧ N ≤ 20) (hD : 0 < D ∧ D ≤ 20) : Small 20 ⟨g, l, d⟩ :=
  ⟨(N : Rat) / (D : Rat), sm_of (r := ⟨g, l, d⟩) h trivial hD.1 (by omega) (by omega) (by decide) (by have := cast_pos hD.1; grind)⟩
end Go.Proofs.Ythjbfdifeffilaa
