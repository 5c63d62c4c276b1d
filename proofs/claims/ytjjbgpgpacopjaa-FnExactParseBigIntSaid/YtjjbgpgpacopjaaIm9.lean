/- Contracts of the program's division and greatest common divisor. -/
import Derived.Test.YtjjbgpgpacopjaaIm8
import Derived.Deep.LoopGhost
namespace Go.Proofs.Ytjjbgpgpacopjaa
open Go.RowKit

theorem DivEnd.gives {xs ys : List Int} {B : Nat} {w w' : World} {e : Ending} (h : DivEnd (val xs) (val ys) B w w' e) (k1 : Ok xs) (k2 : Ok ys) (hp : 0 < val ys) (hB : B ≤ 4194304) :
    ∃ r0 v0 r1 v1, e = .returned (.tuple #[v0, v1]) ∧ NatDivIs xs ys r0 r1 ∧ ResI w w' v0 r0 ∧ ResI w w' v1 r1 ∧ Apart v1 v0 ∧ Below w.heap.size w w' := by
  obtain ⟨q, v, r, u, he, hd, hq, hr, h1, h2, ha, hb⟩ := h
  exact ⟨q, v, r, u, he, .inl ⟨k1, k2, hp, hd⟩, ⟨by omega, h1⟩, ⟨by omega, h2⟩, ha, hb⟩
theorem natDiv_none {xs ys : List Int} (w : World) (h : ¬ (Ok xs ∧ Ok ys ∧ 0 < val ys)) :
    ∃ r0 v0 r1 v1, (Ending.returned (.tuple #[.slice none 0 0, .slice none 0 0])) = .returned (.tuple #[v0, v1]) ∧ NatDivIs xs ys r0 r1 ∧ ResI w w v0 r0 ∧ ResI w w v1 r1 ∧ Apart v1 v0 ∧ Below w.heap.size w w :=
  ⟨[], _, [], _, rfl, .inr ⟨h, rfl, rfl⟩, ⟨by simp, World.ownsRow_nil _ _ _ _⟩, ⟨by simp, World.ownsRow_nil _ _ _ _⟩, fun k hk => by simp [Value.ownBlock] at hk, Below.refl _ _⟩


theorem gcd_end (a : Int) (h : 0 ≤ a) : (Int.gcd a 0 : Int) = a := by rw [Int.gcd_zero_right]; omega

/-- Two numbers whose greatest common divisor is G, in memory. -/
def GcdMem (G : Nat) (A1 : Option Addr) (n1 : Nat) (xs : List Int) (A2 : Option Addr) (n2 : Nat) (ys : List Int) (wr : World) : Prop :=
  xs.length = n1 ∧ Canon xs ∧ Reads wr A1 (xs.map (.int .i64)) ∧ ys.length = n2 ∧ Canon ys ∧ Reads wr A2 (ys.map (.int .i64)) ∧ Int.gcd (val xs) (val ys) = G
theorem two_limbs {xs : List Int} (h : InR xs) (hl : xs.length ≤ 2) : 0 ≤ val xs ∧ val xs ≤ 999999999999999999 := by
  have h1 := val_lt h
  have h2 := pw_mono hl
  have h3 : pw 2 = 1000000000000000000 := by decide
  exact ⟨val_nonneg h, by omega⟩
theorem gcd_le_nat (a b : Int) (a0 : 0 ≤ a) (ha : a ≤ 999999999999999999) (b0 : 0 ≤ b) (hb : b ≤ 999999999999999999) : (Int.gcd a b : Int) ≤ 999999999999999999 := by
  by_cases e : b = 0
  · subst e; rw [gcd_end a a0]; exact ha
  · have h := Int.gcd_dvd_right a b
    have := Int.le_of_dvd (by omega) h
    omega
theorem natGcd_natOf {a b : Int} {r : List Int} (h : NatOfIs (Int.gcd a b : Int) r) : GcdIs a b r := ⟨h.1, by
  rw [h.2]; split
  · omega
  · rfl⟩
end Go.Proofs.Ytjjbgpgpacopjaa
