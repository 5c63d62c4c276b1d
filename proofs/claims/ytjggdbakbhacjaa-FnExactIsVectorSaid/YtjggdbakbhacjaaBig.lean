/- Big integers: a sign beside limbs; what the operations give. Plain facts; no program is named here. -/
import Derived.Test.YtjggdbakbhacjaaVal2
namespace Go.Proofs.Ytjggdbakbhacjaa
set_option maxRecDepth 100000

/-- The worth of a sign and limbs. -/
def bval (g : Bool) (l : List Int) : Int := if g = true then - val l else val l
def BOk (g : Bool) (l : List Int) : Prop := Ok l ∧ (g = true → l ≠ [])
/-- The sign of a number with these limbs: none where there are no limbs. -/
def sgn (n : Bool) (r : List Int) : Bool := n && decide (r ≠ [])
/-- t as a big integer; 0 where it is too long. -/
def BRep (t : Int) (g : Bool) (r : List Int) : Prop := ∃ l, Canon l ∧ val l = (t.natAbs : Int) ∧ r = cap l ∧ g = sgn (decide (t < 0)) r
theorem bRep_unique {t : Int} {g g' : Bool} {r r' : List Int} (h : BRep t g r) (h' : BRep t g' r') : g = g' ∧ r = r' := by
  obtain ⟨l, hc, hv, rfl, rfl⟩ := h
  obtain ⟨l', hc', hv', rfl, rfl⟩ := h'
  obtain rfl := canon_unique hc hc' (hv.trans hv'.symm)
  exact ⟨rfl, rfl⟩
/-- What an operation gives: t where P holds, else 0. -/
def BigIs (P : Prop) (t : Int) (g : Bool) (r : List Int) : Prop := (P ∧ BRep t g r) ∨ (¬ P ∧ g = false ∧ r = [])
theorem bigIs_unique {P : Prop} {t : Int} {g g' : Bool} {r r' : List Int} (h : BigIs P t g r) (h' : BigIs P t g' r') : g = g' ∧ r = r' := by
  rcases h with ⟨hp, h⟩ | ⟨hp, rfl, rfl⟩ <;> rcases h' with ⟨hp', h'⟩ | ⟨hp', rfl, rfl⟩
  · exact bRep_unique h h'
  · exact absurd hp hp'
  · exact absurd hp' hp
  · exact ⟨rfl, rfl⟩

def BigIntOkIs (g : Bool) (l : List Int) (b : Bool) : Prop := b = true ↔ BOk g l
theorem bigIntOk_unique {g : Bool} {l : List Int} {b b' : Bool} (h : BigIntOkIs g l b) (h' : BigIntOkIs g l b') : b = b' := by
  unfold BigIntOkIs at h h'
  rw [Bool.eq_iff_iff, h, h']
def BigIntOfIs (n : Int) (g : Bool) (r : List Int) : Prop := BRep n g r
theorem bigIntOf_unique {n : Int} {g g' : Bool} {r r' : List Int} (h : BigIntOfIs n g r) (h' : BigIntOfIs n g' r') : g = g' ∧ r = r' := bRep_unique h h'
def BigIntToIntIs (g : Bool) (l : List Int) (v : Int) (b : Bool) : Prop :=
  (b = true ∧ (BOk g l ∧ val l ≤ 9223372036854775807) ∧ v = bval g l) ∨ (b = false ∧ v = 0 ∧ ¬ (BOk g l ∧ val l ≤ 9223372036854775807))
theorem bigIntToInt_unique {g : Bool} {l : List Int} {v v' : Int} {b b' : Bool} (h : BigIntToIntIs g l v b) (h' : BigIntToIntIs g l v' b') : v = v' ∧ b = b' := by
  rcases h with ⟨rfl, hp, rfl⟩ | ⟨rfl, rfl, hp⟩ <;> rcases h' with ⟨rfl, hp', rfl⟩ | ⟨rfl, rfl, hp'⟩
  · exact ⟨rfl, rfl⟩
  · exact absurd hp hp'
  · exact absurd hp' hp
  · exact ⟨rfl, rfl⟩
def BigIntNegIs (g : Bool) (l : List Int) (h : Bool) (r : List Int) : Prop := BigIs (BOk g l) (- bval g l) h r
theorem bigIntNeg_unique {g : Bool} {l : List Int} {h h' : Bool} {r r' : List Int} (k : BigIntNegIs g l h r) (k' : BigIntNegIs g l h' r') : h = h' ∧ r = r' := bigIs_unique k k'
section
variable {g1 g2 : Bool} {l1 l2 : List Int} {h h' : Bool} {r r' : List Int}
def BigIntAddIs (g1 : Bool) (l1 : List Int) (g2 : Bool) (l2 : List Int) (h : Bool) (r : List Int) : Prop := BigIs (BOk g1 l1 ∧ BOk g2 l2) (bval g1 l1 + bval g2 l2) h r
def BigIntSubIs (g1 : Bool) (l1 : List Int) (g2 : Bool) (l2 : List Int) (h : Bool) (r : List Int) : Prop := BigIs (BOk g1 l1 ∧ BOk g2 l2) (bval g1 l1 - bval g2 l2) h r
def BigIntMulIs (g1 : Bool) (l1 : List Int) (g2 : Bool) (l2 : List Int) (h : Bool) (r : List Int) : Prop := BigIs (BOk g1 l1 ∧ BOk g2 l2) (bval g1 l1 * bval g2 l2) h r
theorem bigIntAdd_unique (k : BigIntAddIs g1 l1 g2 l2 h r) (k' : BigIntAddIs g1 l1 g2 l2 h' r') : h = h' ∧ r = r' := bigIs_unique k k'
theorem bigIntSub_unique (k : BigIntSubIs g1 l1 g2 l2 h r) (k' : BigIntSubIs g1 l1 g2 l2 h' r') : h = h' ∧ r = r' := bigIs_unique k k'
theorem bigIntMul_unique (k : BigIntMulIs g1 l1 g2 l2 h r) (k' : BigIntMulIs g1 l1 g2 l2 h' r') : h = h' ∧ r = r' := bigIs_unique k k'
end
def BigIntCmpIs (g1 : Bool) (l1 : List Int) (g2 : Bool) (l2 : List Int) (r : Int) : Prop :=
  ((BOk g1 l1 ∧ BOk g2 l2) ∧ r = cmpV (bval g1 l1) (bval g2 l2)) ∨ (¬ (BOk g1 l1 ∧ BOk g2 l2) ∧ r = 0)
theorem bigIntCmp_unique {g1 g2 : Bool} {l1 l2 : List Int} {r r' : Int} (k : BigIntCmpIs g1 l1 g2 l2 r) (k' : BigIntCmpIs g1 l1 g2 l2 r') : r = r' := by
  rcases k with ⟨hp, rfl⟩ | ⟨hp, rfl⟩ <;> rcases k' with ⟨hp', rfl⟩ | ⟨hp', rfl⟩
  · rfl
  · exact absurd hp hp'
  · exact absurd hp' hp
  · rfl
/-- Rounded down, and what is left. -/
def BigIntFloorDivIs (g : Bool) (l m : List Int) (h : Bool) (q r : List Int) : Prop :=
  ((BOk g l ∧ Ok m ∧ 0 < val m) ∧ BRep (bval g l / val m) h q ∧ Canon r ∧ val r = bval g l % val m) ∨ (¬ (BOk g l ∧ Ok m ∧ 0 < val m) ∧ h = false ∧ q = [] ∧ r = [])
theorem bigIntFloorDiv_unique {g : Bool} {l m : List Int} {h h' : Bool} {q r q' r' : List Int} (k : BigIntFloorDivIs g l m h q r) (k' : BigIntFloorDivIs g l m h' q' r') : h = h' ∧ q = q' ∧ r = r' := by
  rcases k with ⟨hp, k1, k2, k3⟩ | ⟨hp, rfl, rfl, rfl⟩ <;> rcases k' with ⟨hp', k1', k2', k3'⟩ | ⟨hp', rfl, rfl, rfl⟩
  · obtain ⟨rfl, rfl⟩ := bRep_unique k1 k1'
    exact ⟨rfl, rfl, canon_unique k2 k2' (k3.trans k3'.symm)⟩
  · exact absurd hp hp'
  · exact absurd hp' hp
  · exact ⟨rfl, rfl, rfl⟩

theorem bigOk_mk {g b : Bool} {xs : List Int} {n : Nat} (h : NatOkIs xs b) (hn : xs.length = n) : BigIntOkIs g xs (b && (!g || decide (0 < n))) := by
  unfold BigIntOkIs BOk
  unfold NatOkIs at h
  have hne : xs ≠ [] ↔ 0 < n := by rw [← hn]; exact List.length_pos_iff.symm
  cases g <;> simp [h, hne]
/-- A sign put to limbs that are not too long. -/
theorem bRep_of {t : Int} {n : Bool} {l r : List Int} (hc : Canon l) (hv : val l = (t.natAbs : Int)) (hr : r = cap l) (hn : t ≠ 0 → n = decide (t < 0)) : BRep t (sgn n r) r := by
  refine ⟨l, hc, hv, hr, ?_⟩
  by_cases h0 : t = 0
  · subst h0
    obtain rfl := canon_zero hc hv
    subst hr
    simp [sgn, cap]
  · rw [hn h0]
theorem make_rep {t V : Int} {n : Bool} {r : List Int} (h : ∃ l, Canon l ∧ val l = V ∧ r = cap l) (hV : V = (t.natAbs : Int)) (hn : t ≠ 0 → n = decide (t < 0)) : BRep t (sgn n r) r := by
  obtain ⟨l, hc, hv, hr⟩ := h
  exact bRep_of hc (hv.trans hV) hr hn
theorem of_neg {n : Int} {rs r : List Int} (hn : n < 0) (h : NatOfIs (-n) rs) (k : ∃ l, Canon l ∧ val l = val rs ∧ r = cap l) : BigIntOfIs n (sgn true r) r := by
  refine make_rep k ?_ (fun _ => by simp [hn])
  have := h.2
  rw [if_neg (by omega)] at this
  omega
theorem of_pos {n : Int} {rs r : List Int} (hn : 0 ≤ n) (h : NatOfIs n rs) (k : ∃ l, Canon l ∧ val l = val rs ∧ r = cap l) : BigIntOfIs n (sgn false r) r := by
  refine make_rep k ?_ (fun _ => by simp; omega)
  have := h.2
  split at this <;> omega
theorem sgn_false (r : List Int) : sgn false r = false := rfl
theorem bval_neg {g : Bool} {l : List Int} (h : BOk g l) : (val l = ((- bval g l).natAbs : Int)) ∧ (- bval g l ≠ 0 → (!g) = decide (- bval g l < 0)) := by
  have h0 := val_nonneg h.1.1.1
  cases g
  · simp only [bval]; refine ⟨by simp; omega, fun hne => ?_⟩
    simp at hne ⊢; omega
  · simp only [bval]; refine ⟨by simp; omega, fun hne => ?_⟩
    simp at hne ⊢; omega
theorem BOk.pos {l : List Int} (h : BOk true l) : 0 < val l := canon_pos h.1.1 (List.length_pos_iff.2 (h.2 rfl))
theorem BOk.nonneg {g : Bool} {l : List Int} (h : BOk g l) : 0 ≤ val l := val_nonneg h.1.1.1
theorem add_same {g : Bool} {xs ys r : List Int} {V : Int} (k1 : BOk g xs) (k2 : BOk g ys) (hV : V = val xs + val ys) (h : ∃ l, Canon l ∧ val l = V ∧ r = cap l) : BRep (bval g xs + bval g ys) (sgn g r) r := by
  subst hV
  have h1 := k1.nonneg
  have h2 := k2.nonneg
  cases g
  · exact make_rep h (by simp only [bval]; simp; omega) (fun _ => by simp only [bval]; simp; omega)
  · have h3 := k1.pos
    exact make_rep h (by simp only [bval]; simp; omega) (fun _ => by simp only [bval]; simp; omega)
theorem add_less {g g' : Bool} {xs ys r : List Int} {V : Int} (hg : g' = !g) (hle : val ys ≤ val xs) (hV : V = val xs - val ys) (h : ∃ l, Canon l ∧ val l = V ∧ r = cap l) : BRep (bval g xs + bval g' ys) (sgn g r) r := by
  subst hV hg
  cases g
  · exact make_rep h (by simp only [bval]; simp; omega) (fun hne => by simp only [bval] at hne ⊢; simp at hne ⊢; omega)
  · exact make_rep h (by simp only [bval]; simp; omega) (fun hne => by simp only [bval] at hne ⊢; simp at hne ⊢; omega)
theorem add_more {g g' : Bool} {xs ys r : List Int} {V : Int} (hg : g' = !g) (hle : val xs ≤ val ys) (hV : V = val ys - val xs) (h : ∃ l, Canon l ∧ val l = V ∧ r = cap l) : BRep (bval g xs + bval g' ys) (sgn g' r) r := by
  rw [Int.add_comm]; exact add_less (by rw [hg]; simp) hle hV h
theorem bool_ne {g g' : Bool} (h : ¬ g = g') : g' = !g := by cases g <;> cases g' <;> simp_all
theorem bRep_ok {t : Int} {g : Bool} {r l : List Int} (h : BRep t g r) (hl : Ok l) (hv : val l = (t.natAbs : Int)) : BOk g r ∧ bval g r = t := by
  obtain ⟨l', hc, hv', rfl, rfl⟩ := h
  obtain rfl := canon_unique hc hl.1 (hv'.trans hv.symm)
  have hcap := (hc.ok hl.2).2
  rw [hcap]
  by_cases h0 : l' = []
  · subst h0
    have ht : t = 0 := by simp [val] at hv; omega
    subst ht
    exact ⟨⟨hl, by simp [sgn]⟩, by simp [bval, sgn, val]⟩
  · refine ⟨⟨hl, fun _ => h0⟩, ?_⟩
    by_cases hn : t < 0
    · simp [bval, sgn, h0, hn]; omega
    · simp [bval, sgn, hn]; omega
theorem neg_ok {g h : Bool} {l r : List Int} (k : BOk g l) (q : BigIntNegIs g l h r) : BOk h r ∧ bval h r = - bval g l := by
  rcases q with ⟨_, q⟩ | ⟨q, _⟩
  · exact bRep_ok q k.1 (bval_neg k).1
  · exact absurd k q
theorem sub_mk {g1 g2 g0 h : Bool} {l1 l2 l0 r : List Int} (k1 : BOk g1 l1) (k2 : BOk g2 l2) (k0 : bval g0 l0 = - bval g2 l2) (q : BRep (bval g1 l1 + bval g0 l0) h r) : BigIntSubIs g1 l1 g2 l2 h r :=
  .inl ⟨⟨k1, k2⟩, by rw [k0] at q; rwa [Int.sub_eq_add_neg]⟩
theorem mul_mk {g1 g2 b : Bool} {xs ys r : List Int} {V : Int} (k1 : BOk g1 xs) (k2 : BOk g2 ys) (hb : (g1 != g2) = b) (hV : V = val xs * val ys) (h : ∃ l, Canon l ∧ val l = V ∧ r = cap l) : BigIntMulIs g1 xs g2 ys (sgn b r) r := by
  have h0 := Int.mul_nonneg k1.nonneg k2.nonneg
  have e : bval g1 xs * bval g2 ys = if b = true then -(val xs * val ys) else val xs * val ys := by
    subst hb
    cases g1 <;> cases g2 <;> simp [bval, Int.neg_mul, Int.mul_neg]
  refine .inl ⟨⟨k1, k2⟩, ?_⟩
  rw [e]
  subst hV
  generalize val xs * val ys = p at *
  cases b
  · exact make_rep h (by simp; omega) (fun _ => by simp; omega)
  · exact make_rep h (by simp; omega) (fun hne => by simp at hne ⊢; omega)
theorem cmp_neg (a b : Int) : cmpV (-a) (-b) = cmpV b a := by
  unfold cmpV
  by_cases h : b < a
  · rw [if_pos (by omega), if_pos h]
  · by_cases e : a = b
    · subst e; simp
    · rw [if_neg (by omega), if_neg (by omega), if_neg h, if_neg (by omega)]
theorem cmpV_bd (a b : Int) : -1 ≤ cmpV a b ∧ cmpV a b ≤ 1 := by
  unfold cmpV
  by_cases h : a < b
  · rw [if_pos h]; omega
  · by_cases e : a = b
    · rw [if_neg h, if_pos e]; omega
    · rw [if_neg h, if_neg e]; omega
/-- The floor of a division with a sign. -/
theorem floor_pos {a b q r : Int} (h : a = q * b + r) (h0 : 0 ≤ r) (h1 : r < b) : a / b = q ∧ a % b = r := by
  have hb : 0 < b := by omega
  have e : a = r + b * q := by rw [h, Int.mul_comm q b]; omega
  subst e
  exact ⟨by rw [Int.add_mul_ediv_left _ _ (by omega), Int.ediv_eq_zero_of_lt h0 h1]; omega, by rw [Int.add_mul_emod_self_left, Int.emod_eq_of_lt h0 h1]⟩
theorem floor_neg {a b q r : Int} (h : a = q * b + r) (h0 : 0 < r) (h1 : r < b) : (-a) / b = -(q + 1) ∧ (-a) % b = b - r := by
  refine floor_pos (q := -(q + 1)) (r := b - r) ?_ (by omega) (by omega)
  rw [h, Int.neg_mul, Int.add_mul]; omega
theorem floor_neg0 {a b q : Int} (h : a = q * b + 0) (hb : 0 < b) : (-a) / b = -q ∧ (-a) % b = 0 := by
  refine floor_pos (q := -q) (r := 0) ?_ (by omega) hb
  rw [h, Int.neg_mul]; omega
/-- The sign of a number: -1, 0 or 1. -/
def sg (g : Bool) (n : Nat) : Int := if g = true then -1 else if n = 0 then 0 else 1
theorem sg_bd (g : Bool) (n : Nat) : -1 ≤ sg g n ∧ sg g n ≤ 1 := by unfold sg; split; omega; split <;> omega
/-- s is the sign of what these limbs stand for. -/
def SOk (s : Int) (l : List Int) : Prop := Ok l ∧ ((s = -1 ∧ 0 < val l) ∨ (s = 0 ∧ l = []) ∨ (s = 1 ∧ 0 < val l))
theorem sok_sg {g : Bool} {l : List Int} {n : Nat} (h : BOk g l) (hn : l.length = n) : SOk (sg g n) l ∧ bval g l = sg g n * val l := by
  unfold sg
  cases g
  · by_cases h0 : n = 0
    · obtain rfl := List.eq_nil_of_length_eq_zero (hn.trans h0)
      simp [SOk, h.1, h0, bval, val]
    · have hp := canon_pos h.1.1 (by omega : 0 < l.length)
      simp [SOk, h.1, h0, bval, hp]
  · have hp := h.pos
    simp [SOk, h.1, bval, hp]
theorem sok_neg {s : Int} {l : List Int} (h : SOk s l) : SOk (-s) l := by
  refine ⟨h.1, ?_⟩
  rcases h.2 with ⟨rfl, k⟩ | ⟨rfl, k⟩ | ⟨rfl, k⟩
  · exact .inr (.inr ⟨by omega, k⟩)
  · exact .inr (.inl ⟨by omega, k⟩)
  · exact .inl ⟨by omega, k⟩
theorem sign_rep {t s : Int} {r : List Int} (h : ∃ l, Canon l ∧ val l = (t.natAbs : Int) ∧ r = cap l) (hs : t ≠ 0 → (s = -1 ↔ t < 0)) : BRep t (sgn (decide (s = -1)) r) r :=
  make_rep h rfl (fun hn => decide_eq_decide.2 (hs hn))
theorem ok_cap {l : List Int} (h : Ok l) : ∃ m, Canon m ∧ val m = val l ∧ l = cap m := ⟨l, h.1, rfl, (h.1.ok h.2).2.symm⟩
theorem bin_cap {P : Prop} {t : Int} {r : List Int} (h : BinIs P t r) (hp : P) : ∃ m, Canon m ∧ val m = t ∧ r = cap m := by
  rcases h with ⟨_, h⟩ | ⟨h, _⟩
  · exact h
  · exact absurd hp h
theorem neg_sign {g : Bool} {l : List Int} {n : Nat} (h : BOk g l) (hn : l.length = n) : BigIntNegIs g l (sgn (decide (-(sg g n) = -1)) l) l := by
  obtain ⟨k, e⟩ := sok_sg h hn
  refine .inl ⟨h, ?_⟩
  obtain ⟨m, hm⟩ := ok_cap h.1
  refine sign_rep ⟨m, hm.1, hm.2.1.trans (bval_neg h).1, hm.2.2⟩ ?_
  rw [e]
  rcases k.2 with ⟨e, h⟩ | ⟨e, h⟩ | ⟨e, h⟩ <;> rw [e] <;> simp <;> omega
theorem add_s {s : Int} {a b r : List Int} (k1 : SOk s a) (k2 : SOk s b) (h : ∃ l, Canon l ∧ val l = val a + val b ∧ r = cap l) : BRep (s * val a + s * val b) (sgn (decide (s = -1)) r) r := by
  obtain ⟨l, hc, hv, hr⟩ := h
  have ha := val_nonneg k1.1.1.1
  have hb := val_nonneg k2.1.1.1
  refine sign_rep ⟨l, hc, ?_, hr⟩ ?_
  · rw [hv]; rcases k1.2 with ⟨rfl, h⟩ | ⟨rfl, h⟩ | ⟨rfl, h⟩
    · omega
    · rcases k2.2 with ⟨e, _⟩ | ⟨_, h2⟩ | ⟨e, _⟩
      · omega
      · subst h h2; simp [val]
      · omega
    · omega
  · rcases k1.2 with ⟨rfl, h⟩ | ⟨rfl, h⟩ | ⟨rfl, h⟩ <;> intro hne <;> omega
theorem sub_s {s t : Int} {a b r : List Int} (k1 : SOk s a) (k2 : SOk t b) (hst : s ≠ t) (hle : val b ≤ val a) (h : ∃ l, Canon l ∧ val l = val a - val b ∧ r = cap l) : BRep (s * val a + t * val b) (sgn (decide (s = -1)) r) r := by
  obtain ⟨l, hc, hv, hr⟩ := h
  have ha := val_nonneg k1.1.1.1
  have hb := val_nonneg k2.1.1.1
  have n1 : s = 0 → val a = 0 := fun e => by
    rcases k1.2 with ⟨h, _⟩ | ⟨_, h⟩ | ⟨h, _⟩
    · omega
    · rw [h]; rfl
    · omega
  have n2 : t = 0 → val b = 0 := fun e => by
    rcases k2.2 with ⟨h, _⟩ | ⟨_, h⟩ | ⟨h, _⟩
    · omega
    · rw [h]; rfl
    · omega
  refine sign_rep ⟨l, hc, ?_, hr⟩ ?_
  · rw [hv]
    rcases k1.2 with ⟨rfl, h1⟩ | ⟨rfl, h1⟩ | ⟨rfl, h1⟩ <;> rcases k2.2 with ⟨rfl, h2⟩ | ⟨rfl, h2⟩ | ⟨rfl, h2⟩ <;> omega
  · rcases k1.2 with ⟨rfl, h1⟩ | ⟨rfl, h1⟩ | ⟨rfl, h1⟩ <;> rcases k2.2 with ⟨rfl, h2⟩ | ⟨rfl, h2⟩ | ⟨rfl, h2⟩ <;> intro hne <;> omega
theorem mul_s {s t : Int} {a b r : List Int} (k1 : SOk s a) (k2 : SOk t b) (h : ∃ l, Canon l ∧ val l = val a * val b ∧ r = cap l) : BRep (s * val a * (t * val b)) (sgn (decide (s * t = -1)) r) r := by
  obtain ⟨l, hc, hv, hr⟩ := h
  have ha := val_nonneg k1.1.1.1
  have hb := val_nonneg k2.1.1.1
  have hp := Int.mul_nonneg ha hb
  have e : s * val a * (t * val b) = s * t * (val a * val b) := by
    rw [Int.mul_assoc, Int.mul_assoc, Int.mul_left_comm (val a)]
  rw [e]
  have z1 : a = [] → val a * val b = 0 := fun h => by rw [h]; simp [val]
  have z2 : b = [] → val a * val b = 0 := fun h => by rw [h]; simp [val]
  generalize val a * val b = p at *
  refine sign_rep ⟨l, hc, ?_, hr⟩ ?_
  · rw [hv]
    rcases k1.2 with ⟨rfl, h1⟩ | ⟨rfl, h1⟩ | ⟨rfl, h1⟩ <;> rcases k2.2 with ⟨rfl, h2⟩ | ⟨rfl, h2⟩ | ⟨rfl, h2⟩ <;> first | omega | (have := z1 h1; omega) | (have := z2 h2; omega)
  · rcases k1.2 with ⟨rfl, h1⟩ | ⟨rfl, h1⟩ | ⟨rfl, h1⟩ <;> rcases k2.2 with ⟨rfl, h2⟩ | ⟨rfl, h2⟩ | ⟨rfl, h2⟩ <;> intro hne <;> first | omega | (have := z1 h1; omega) | (have := z2 h2; omega)
theorem canon_ne {l : List Int} (h : Canon l) : 0 < val l ↔ l ≠ [] := by
  constructor
  · rintro h1 rfl; simp [val] at h1
  · intro h1
    exact canon_pos h (List.length_pos_iff.2 h1)
theorem Ok.val0 {l : List Int} (h : Ok l) : 0 ≤ val l := val_nonneg h.1.1
theorem floor_mk {g : Bool} {xs ms q r rq : List Int} (k : BOk g xs) (km : Ok ms) (hp : 0 < val ms) (hd : DivIs (val xs) (val ms) q r) (hg : g = true → val r = 0) (h : ∃ l, Canon l ∧ val l = val q ∧ rq = cap l) : BigIntFloorDivIs g xs ms (sgn g rq) rq r := by
  obtain ⟨hq, hr, he, hlt⟩ := hd
  have h0 := val_nonneg hr.1
  have hq0 := val_nonneg hq.1
  refine .inl ⟨⟨k, km, hp⟩, ?_⟩
  cases g
  · obtain ⟨e1, e2⟩ := floor_pos he h0 hlt
    refine ⟨?_, hr, by rw [show bval false xs = val xs from rfl, e2]⟩
    rw [show bval false xs = val xs from rfl, e1]
    exact make_rep h (by omega) (fun _ => by simp; omega)
  · have hz := hg rfl
    rw [hz] at he
    obtain ⟨e1, e2⟩ := floor_neg0 he hp
    refine ⟨?_, hr, by rw [show bval true xs = -val xs from rfl, e2, hz]⟩
    rw [show bval true xs = -val xs from rfl, e1]
    exact make_rep h (by omega) (fun hne => by simp; omega)
theorem floor_mk_neg {xs ms q r r' rq : List Int} {V : Int} (k : BOk true xs) (km : Ok ms) (hp : 0 < val ms) (hd : DivIs (val xs) (val ms) q r) (hr0 : 0 < val r) (hV : V = val q + 1) (h : ∃ l, Canon l ∧ val l = V ∧ rq = cap l) (hr' : Canon r') (hv' : val r' = val ms - val r) :
    BigIntFloorDivIs true xs ms (sgn true rq) rq r' := by
  obtain ⟨hq, hr, he, hlt⟩ := hd
  have hq0 := val_nonneg hq.1
  subst hV
  obtain ⟨e1, e2⟩ := floor_neg he hr0 hlt
  refine .inl ⟨⟨k, km, hp⟩, ?_, hr', by rw [show bval true xs = -val xs from rfl, e2, hv']⟩
  rw [show bval true xs = -val xs from rfl, e1]
  exact make_rep h (by omega) (fun _ => by simp; omega)
theorem floor_no {g : Bool} {xs ms : List Int} (h : ¬ (BOk g xs ∧ Ok ms ∧ 0 < val ms)) : BigIntFloorDivIs g xs ms false [] [] := .inr ⟨h, rfl, rfl, rfl⟩
end Go.Proofs.Ytjggdbakbhacjaa
