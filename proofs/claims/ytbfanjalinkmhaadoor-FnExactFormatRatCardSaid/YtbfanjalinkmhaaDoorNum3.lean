/- Plain facts on the text of a natural number: the decimal digits of its value, limb by limb; no program is named here. -/
import Derived.Test.YtbfanjalinkmhaaDoorNum2
import Derived.Test.YtbfanjalinkmhaaDoorPad
namespace Go.Proofs.YtbfanjalinkmhaaDoor
set_option maxRecDepth 100000
open Go.RowKit

/-- The last k digits of v, zeros ahead. -/
def padD : Nat → Nat → List UInt8
  | 0, _ => []
  | k + 1, v => padD k (v / 10) ++ [UInt8.ofNat (48 + v % 10)]
theorem dec_split : ∀ (k u v : Nat), 0 < u → v < 10 ^ k → Lib.decDigits (u * 10 ^ k + v) = Lib.decDigits u ++ padD k v
  | 0, u, v, _, hv => by
    obtain rfl : v = 0 := by simpa using hv
    simp [padD]
  | k + 1, u, v, hu, hv => by
    rw [Nat.pow_succ] at hv ⊢
    have h10 : 10 ^ k * 1 ≤ 10 ^ k * u := Nat.mul_le_mul_left _ hu
    have hp := Nat.pow_pos (n := k) (show 0 < 10 by omega)
    have e : u * (10 ^ k * 10) = (u * 10 ^ k) * 10 := by rw [Nat.mul_assoc]
    have hm : u * 10 ^ k = 10 ^ k * u := Nat.mul_comm _ _
    rw [decDigits_last (by omega), show (u * (10 ^ k * 10) + v) / 10 = u * 10 ^ k + v / 10 by omega, show (u * (10 ^ k * 10) + v) % 10 = v % 10 by omega,
      dec_split k u (v / 10) hu (by omega), padD, List.append_assoc]
theorem padD_zero : ∀ k, padD k 0 = List.replicate k 48
  | 0 => rfl
  | k + 1 => by rw [padD, Nat.zero_div, padD_zero k, List.replicate_succ']; rfl
theorem padD_of : ∀ (k v : Nat), v < 10 ^ (k + 1) → List.replicate (k + 1 - (Lib.decDigits v).length) 48 ++ Lib.decDigits v = padD (k + 1) v
  | 0, v, hv => by
    have h : v < 10 := by simpa using hv
    rw [Lib.decDigits_one h, padD, padD, Nat.mod_eq_of_lt h]; rfl
  | k + 1, v, hv => by
    rw [padD]
    by_cases h : v < 10
    · rw [Lib.decDigits_one h, show v / 10 = 0 by omega, padD_zero, Nat.mod_eq_of_lt h]; rfl
    · rw [Nat.pow_succ] at hv
      rw [decDigits_last h, ← padD_of k (v / 10) (by omega), List.length_append, List.append_assoc, List.length_singleton]
      congr 2; omega
/-- The decimal digits of limbs' worth. -/
def textL (l : List Int) : List UInt8 := Lib.decDigits (val l).toNat
def textB (l : List Int) : ByteArray := ⟨(textL l).toArray⟩
theorem textL_cons {x : Int} {l : List Int} (x0 : 0 ≤ x) (x1 : x ≤ 999999999) (hv : 0 < val l) : textL (x :: l) = textL l ++ padD 9 x.toNat := by
  unfold textL
  rw [← dec_split 9 _ _ (by omega) (by omega)]
  congr 1
  show (x + 1000000000 * val l).toNat = _
  omega
theorem textL_one {x : Int} (x0 : 0 ≤ x) : textL [x] = Lib.decDigits x.toNat := by
  unfold textL
  congr 1
  show (x + 1000000000 * 0).toNat = _
  omega
theorem itoaDec {x : Int} (x0 : 0 ≤ x) : Lib.itoa x = Lib.decDigits x.toNat := by
  obtain ⟨n, rfl⟩ := Int.eq_ofNat_of_zero_le x0
  rw [Lib.itoa_nonneg]; rfl
theorem padZ_nine {s : ByteArray} {x : Int} (hs : s.data.toList = Lib.itoa x) (x0 : 0 ≤ x) (x1 : x ≤ 999999999) : padZ s 9 = ⟨(padD 9 x.toNat).toArray⟩ := by
  have hl : s.size = (Lib.decDigits x.toNat).length := by rw [← len_size, hs, itoaDec x0]
  unfold padZ zs
  rw [if_neg (by omega), hs, itoaDec x0, ← padD_of 8 x.toNat (by omega), hl]
  congr 4
  omega
theorem drop_pos {xs : List Int} (h : Canon xs) {k : Nat} (hk : k < xs.length) : 0 < val (xs.drop k) := by
  refine canon_pos ⟨h.1.drop k, ?_⟩ (by rw [List.length_drop]; omega)
  rw [List.getLast?_drop, if_neg (by omega)]
  exact h.2
theorem textL_drop {xs : List Int} (h : Canon xs) {k : Nat} (hk : k + 1 < xs.length) : textL (xs.drop k) = textL (xs.drop (k + 1)) ++ padD 9 (xs[k]'(by omega)).toNat := by
  have hr := h.1 xs[k] (List.getElem_mem (by omega))
  rw [List.drop_eq_getElem_cons (by omega)]
  exact textL_cons hr.1 hr.2 (drop_pos h hk)
theorem textL_last {xs : List Int} (h : Canon xs) {m : Nat} (hm : xs.length = m + 1) : textL (xs.drop m) = Lib.itoa (xs[m]'(by omega)) := by
  have hr := h.1 xs[m] (List.getElem_mem (by omega))
  rw [List.drop_eq_getElem_cons (by omega), List.drop_eq_nil_of_le (by omega), textL_one hr.1, itoaDec hr.1]
theorem textL_len {xs : List Int} (h : InR xs) (h0 : 0 < xs.length) : (textL xs).length ≤ 9 * xs.length := by
  refine decDigits_len _ _ (by omega) ?_
  have h1 := val_lt h
  have h2 : ∀ k, pw k = ((10 ^ (9 * k) : Nat) : Int) := by
    intro k
    induction k with
    | zero => rfl
    | succ k ih =>
      rw [pw, ih, Nat.mul_succ, Nat.pow_add]; simp; omega
  rw [h2] at h1
  obtain ⟨P, hP⟩ : ∃ P : Nat, P = 10 ^ (9 * xs.length) := ⟨_, rfl⟩
  rw [← hP] at h1 ⊢
  have h3 := val_nonneg h
  omega
/-- What FormatNat returns. -/
noncomputable def fmtNat (xs : List Int) : List UInt8 := open Classical in if Ok xs then (if xs = [] then [48] else textL xs) else []
theorem fmtNat_ok {xs : List Int} (h : Ok xs) : fmtNat xs = textL xs := by
  unfold fmtNat
  rw [if_pos h]
  split
  · next e => subst e; unfold textL; rw [show (val []).toNat = 0 from rfl, Lib.decDigits_one (by omega)]; rfl
  · rfl
theorem fmtNat_no {xs : List Int} (h : ¬ Ok xs) : fmtNat xs = [] := by unfold fmtNat; rw [if_neg h]
def FormatNatIs (xs : List Int) (r : ByteArray) : Prop := r = ⟨(fmtNat xs).toArray⟩
theorem formatNat_unique {xs : List Int} {r r' : ByteArray} (h : FormatNatIs xs r) (h' : FormatNatIs xs r') : r = r' := h.trans h'.symm
theorem formatNat_text {xs : List Int} (h : Ok xs) : FormatNatIs xs (textB xs) := by unfold FormatNatIs textB; rw [fmtNat_ok h]
theorem textB_size (xs : List Int) : (textB xs).size = (textL xs).length := by
  show (textL xs).toArray.size = _; simp
theorem textB_step {xs : List Int} (h : Canon xs) {k : Nat} (hk : k + 1 < xs.length) {s : ByteArray} (hs : s.data.toList = Lib.itoa (xs[k]'(by omega))) : textB (xs.drop (k + 1)) ++ padZ s 9 = textB (xs.drop k) := by
  have hr := h.1 xs[k] (List.getElem_mem (by omega))
  unfold textB
  rw [padZ_nine hs hr.1 hr.2, ByteArray.mk_append_mk, ← textL_drop h hk]
/-- What FormatNat writes is the text of a number, and worth its value. -/
theorem format_parse {xs : List Int} {r : ByteArray} (h : Ok xs) (hr : FormatNatIs xs r) : NatText r ∧ worth r r.size = val xs := by
  have hd : r.data.toList = Lib.decDigits (val xs).toNat := by rw [hr, fmtNat_ok h]; simp [textL]
  have hv := val_nonneg h.1.1
  have hsz : r.size = (Lib.decDigits (val xs).toNat).length := by rw [← len_size, hd]
  refine ⟨⟨by rw [hd]; exact digitsB_dec _, ?_, ?_⟩, ?_⟩
  · by_cases h0 : xs = []
    · subst h0
      rw [hsz, show (val []).toNat = 0 from rfl, Lib.decDigits_one (by omega)]; simp
    · have := textL_len h.1.1 (List.length_pos_iff.2 h0)
      have h60 := h.2
      unfold textL at this
      omega
  · by_cases h1 : r.size ≤ 1
    · exact .inl h1
    · right
      rw [hd]
      have hf : ∀ u : Nat, 10 ≤ u → (Lib.decDigits u).head? ≠ some 48 := by
        intro u
        induction u using Nat.strongRecOn with
        | ind u ih =>
          intro hu
          rw [decDigits_last (by omega)]
          by_cases h10 : u / 10 < 10
          · rw [Lib.decDigits_one h10]
            simp only [List.cons_append, List.head?_cons, ne_eq, Option.some.injEq]
            intro e
            have := congrArg UInt8.toNat e
            rw [digit_byte h10] at this
            have e48 : (48 : UInt8).toNat = 48 := rfl
            omega
          · have := ih (u / 10) (by omega) (by omega)
            have hp := decDigits_pos (u / 10)
            rw [List.head?_append]
            match hl : Lib.decDigits (u / 10) with
            | [] => rw [hl] at hp; simp at hp
            | c :: l => rw [hl] at this; simpa using this
      refine hf _ ?_
      by_cases h10 : (val xs).toNat < 10
      · rw [hsz, Lib.decDigits_one h10] at h1; simp at h1
      · omega
  · unfold worth
    rw [List.take_of_length_le (by rw [len_size]; exact Nat.le_refl _), hd, val_decDigits]; omega
end Go.Proofs.YtbfanjalinkmhaaDoor
