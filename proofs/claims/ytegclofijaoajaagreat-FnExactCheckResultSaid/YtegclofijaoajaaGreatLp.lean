/- Linear programs as data: sums of products, what each function on vectors answers. No program is named here. -/
import Derived.Test.YtegclofijaoajaaGreatLpD
import Derived.Test.YtegclofijaoajaaGreatVecB
import Derived.Test.YtegclofijaoajaaGreatEL
import Derived.Test.YtegclofijaoajaaGreatGW
import Derived.Test.YtegclofijaoajaaGreatGK
namespace Go.Proofs.YtegclofijaoajaaGreat
set_option maxRecDepth 100000
open Go.RowKit

/-! Sums of products. -/
noncomputable def ldot (ns : List Int) (vs : List RD) : RD := rinner (ns.map rint) vs
/-- The sum of the first i. -/
noncomputable def ldotTo (ns : List Int) (vs : List RD) (i : Nat) : RD := rsum (List.zipWith rmul (ns.map rint) vs) i
theorem ldotTo_succ {ns : List Int} {vs : List RD} {i : Nat} {n : Int} {r : RD} (hn : ns[i]? = some n) (hr : vs[i]? = some r) : ldotTo ns vs (i + 1) = radd (ldotTo ns vs i) (rmul (rint n) r) :=
  rsum_succ (zip_at (by rw [List.getElem?_map, hn]; rfl) hr)
theorem ldotTo_good (ns : List Int) (vs : List RD) (i : Nat) : (ldotTo ns vs i).ok ∨ ldotTo ns vs i = RD.zero := rsum_good _ _
theorem ldotTo_all {ns : List Int} {vs : List RD} {n : Nat} (h : ns.length = n) (h' : vs.length = n) : ldotTo ns vs n = ldot ns vs := by
  unfold ldotTo ldot rinner
  rw [List.length_zipWith, List.length_map, h, h', Nat.min_self]
theorem ldotTo_stuck {ns : List Int} {vs : List RD} {i : Nat} (h : ¬ (ldotTo ns vs i).ok) : ∀ j, i ≤ j → ¬ (ldotTo ns vs j).ok := by
  intro j hj
  induction j with
  | zero => obtain rfl : i = 0 := by omega
            exact h
  | succ j ih =>
    by_cases he : i = j + 1
    · subst he; exact h
    have hn := ih (by omega)
    unfold ldotTo at hn ⊢
    by_cases hl : j < (List.zipWith rmul (ns.map rint) vs).length
    · rw [rsum_succ (List.getElem?_eq_getElem hl), radd_bad fun k => hn k.1]; exact RD.zero_bad
    · have e : rsum (List.zipWith rmul (ns.map rint) vs) (j + 1) = rsum (List.zipWith rmul (ns.map rint) vs) j := by unfold rsum; rw [List.take_of_length_le (by omega), List.take_of_length_le (by omega)]
      rw [e]; exact hn
theorem ldot_good (ns : List Int) (vs : List RD) : (ldot ns vs).ok ∨ ldot ns vs = RD.zero := rsum_good _ _

/-- A list of n valid fractions. -/
def Rats (vs : List RD) (n : Int) : Prop := (vs.length : Int) = n ∧ AllOk vs
def RatsIs (vs : List RD) (n : Int) (b : Bool) : Prop := b = true ↔ Rats vs n
/-- A sum of products, if it fits, and C holds. -/
def ValueIs (C : Prop) (ns : List Int) (vs : List RD) (g : Bool) (l d : List Int) (q : Bool) : Prop :=
  ((C ∧ (ldot ns vs).ok) ∧ RD.mk g l d = ldot ns vs ∧ q = true) ∨ (¬ (C ∧ (ldot ns vs).ok) ∧ RD.mk g l d = RD.zero ∧ q = false)
theorem value_stuck {ns : List Int} {vs : List RD} {n i : Nat} (h : ¬ (ldotTo ns vs i).ok) (h1 : ns.length = n) (h2 : vs.length = n) (hi : i ≤ n) : ValueIs True ns vs false [] [] false :=
  .inr ⟨fun q => ldotTo_stuck h n hi (by rw [ldotTo_all h1 h2]; exact q.2), rfl, rfl⟩
theorem value_full {ns : List Int} {vs : List RD} {q : RD} (h : q = ldot ns vs) (hk : q.ok) : ValueIs True ns vs q.g q.xs q.ds true := .inl ⟨⟨trivial, by rw [← h]; exact hk⟩, h, rfl⟩
theorem ValueIs.under {C : Prop} {ns : List Int} {vs : List RD} {g : Bool} {l d : List Int} {q : Bool} (h : ValueIs True ns vs g l d q) (hC : C) : ValueIs C ns vs g l d q := by
  rcases h with ⟨⟨_, k⟩, e, rfl⟩ | ⟨k, e, rfl⟩
  · exact .inl ⟨⟨hC, k⟩, e, rfl⟩
  · exact .inr ⟨fun q => k ⟨trivial, q.2⟩, e, rfl⟩
theorem value_no {C : Prop} {ns : List Int} {vs : List RD} (h : ¬ C) : ValueIs C ns vs false [] [] false := .inr ⟨fun q => h q.1, rfl, rfl⟩
theorem value_end {C : Prop} {ns : List Int} {vs : List RD} {q : RD} {b : Bool} (h : q = ldot ns vs) (hg : q.ok ∨ q = RD.zero) (hb : RatOkIs q.g q.xs q.ds b) (hC : C) : ValueIs C ns vs q.g q.xs q.ds b := by
  cases b
  · exact .inr ⟨fun k => (by rw [← h] at k; have := hb.2 k.2; cases this), hg.resolve_left (fun k => (by have := hb.2 k; cases this)), rfl⟩
  · exact .inl ⟨⟨hC, by rw [← h]; exact hb.1 rfl⟩, h, rfl⟩
theorem value_congr {C : Prop} {i : Nat} {j : Int} {ns : List Int} {vs : List RD} {g : Bool} {l d : List Int} {q : Bool} (he : C → (i : Int) = j) (h : ValueIs (C ∧ Rats vs i) ns vs g l d q) : ValueIs (C ∧ Rats vs j) ns vs g l d q := by
  rcases h with ⟨⟨⟨c, r⟩, k⟩, e⟩ | ⟨k, e⟩
  · exact .inl ⟨⟨⟨c, by rw [← he c]; exact r⟩, k⟩, e⟩
  · exact .inr ⟨fun q => k ⟨⟨q.1.1, by rw [he q.1.1]; exact q.1.2⟩, q.2⟩, e⟩
def ObjectiveAtIs (p k : Int) (la lb lc : List Int) (vs : List RD) (g : Bool) (l d : List Int) (q : Bool) : Prop := ValueIs ((LP.mk p k la lb lc).ok ∧ Rats vs k) lc vs g l d q
def BoundAtIs (p k : Int) (la lb lc : List Int) (vs : List RD) (g : Bool) (l d : List Int) (q : Bool) : Prop := ValueIs ((LP.mk p k la lb lc).ok ∧ Rats vs p) lb vs g l d q
/-! What holds. -/
theorem rint_okc {n : Int} (h : -100 ≤ n ∧ n ≤ 100) : (rint n).ok := by
  rcases rint_good n with hk | h0
  · exact hk
  exfalso
  have hs := rint_spec n
  rw [h0] at hs
  rcases hs with ⟨_, h1, _⟩ | ⟨hn, _⟩
  · have := h1.2.2.2.1; simp [RD.zero, val] at this
  · refine hn ⟨trivial, decide (n < 0), if n = 0 then [] else [(n.natAbs : Int)], [1], ⟨by decide, ?_, ⟨one_canon, by simp⟩, by decide, ?_, ?_⟩, ?_, by decide⟩
    · by_cases hz : n = 0
      · subst hz; exact ⟨⟨⟨fun z hz => (by cases hz), (by decide)⟩, (by decide)⟩, fun e => by simp at e⟩
      · rw [if_neg hz]
        refine ⟨⟨⟨fun z hz' => ?_, ?_⟩, by simp⟩, fun _ => by simp⟩
        · obtain rfl := List.mem_singleton.1 hz'; omega
        · intro e; simp at e ⊢; omega
    · rw [show val [1] = 1 by decide]; simp
    · by_cases hz : n = 0
      · subst hz; decide
      · rw [if_neg hz, show val [1] = 1 by decide]
        by_cases hneg : n < 0
        · simp [bval, val, hneg]; omega
        · simp [bval, val, hneg]; omega
    · by_cases hz : n = 0
      · subst hz; decide
      · rw [if_neg hz]; simp
/-- A sum that is at least n. -/
def AtLeast (s : RD) (n : Int) : Prop := s.ok ∧ ¬ cmpV (bval s.g s.xs * val (rint n).ds) (bval (rint n).g (rint n).xs * val s.ds) < 0
def IsFeasibleIs (p k : Int) (la lb lc : List Int) (vs : List RD) (b : Bool) : Prop :=
  b = true ↔ (LP.mk p k la lb lc).ok ∧ Rats vs k ∧ (∀ r ∈ vs, r.g = false) ∧ ∀ i n, lb[i]? = some n → ldot (lrow k.toNat la i) vs = rint n
def IsDualIs (p k : Int) (la lb lc : List Int) (vs : List RD) (b : Bool) : Prop :=
  b = true ↔ (LP.mk p k la lb lc).ok ∧ Rats vs p ∧ ∀ j n, lc[j]? = some n → AtLeast (ldot (lcol k.toNat la p.toNat j) vs) n
def IsFarkasIs (p k : Int) (la lb lc : List Int) (vs : List RD) (b : Bool) : Prop :=
  b = true ↔ ((LP.mk p k la lb lc).ok ∧ Rats vs p) ∧ ((ldot lb vs).ok ∧ (ldot lb vs).g = true) ∧ ∀ j, j < k.toNat → AtLeast (ldot (lcol k.toNat la p.toNat j) vs) 0
theorem cmpV_neg {x y : Int} : cmpV x y < 0 ↔ x < y := by unfold cmpV; split; simp_all; split <;> simp_all
theorem cmpV_zero {x y : Int} : cmpV x y = 0 ↔ x = y := by
  unfold cmpV
  split
  · simp; omega
  · split <;> simp_all
/-- No sum that fits is negative: the sign tells. -/
theorem atLeast0 {s : RD} : AtLeast s 0 ↔ s.ok ∧ s.g = false := by
  unfold AtLeast
  rw [rint0, cmpV_neg]
  refine and_congr_right fun h => ?_
  have hn := h.1.nonneg
  have h1 : val R0.ds = 1 := by decide
  have h2 : bval R0.g R0.xs = 0 := by decide
  rw [h1, h2, Int.zero_mul, Int.mul_one]
  cases hg : s.g
  · simp [bval]; exact hn
  · have h1 := h.1
    rw [hg] at h1
    have := h1.pos
    simp [bval]; omega
/-- Two valid fractions of the same value are the same. -/
theorem same_of_cross {s r : RD} (hs : s.ok) (hr : r.ok) (h : bval s.g s.xs * val r.ds = bval r.g r.xs * val s.ds) : s = r := by
  have h1 : RLow (bval r.g r.xs) (val r.ds) s.g s.xs s.ds := ⟨by have := hr.2.2.1; omega, hs.1, hs.2.1, hs.2.2.1, hs.2.2.2.1, h⟩
  have h2 : RLow (bval r.g r.xs) (val r.ds) r.g r.xs r.ds := ⟨by have := hr.2.2.1; omega, hr.1, hr.2.1, hr.2.2.1, hr.2.2.2.1, rfl⟩
  obtain ⟨a, b, c⟩ := rlow_unique h1 h2
  obtain ⟨g, l, d⟩ := s
  obtain ⟨g', l', d'⟩ := r
  simp at a b c
  subst a b c
  rfl
end Go.Proofs.YtegclofijaoajaaGreat
