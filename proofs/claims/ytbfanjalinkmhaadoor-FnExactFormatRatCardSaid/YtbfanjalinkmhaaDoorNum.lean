/- Plain facts on decimal numerals: no program is named here. -/
import Derived.Test.YtbfanjalinkmhaaDoorBase
import Derived.Lib.ItoaNum
import Derived.Lib.ItoaMem
import Derived.Lib.AtoiAllCases
namespace Go.Proofs.YtbfanjalinkmhaaDoor
set_option maxRecDepth 100000
open Go.RowKit

/-- What the digits l spell behind acc. -/
def valFrom (acc : Nat) : List UInt8 → Nat
  | [] => acc
  | c :: r => valFrom (acc * 10 + (c.toNat - 48)) r
theorem valFrom_append (l r : List UInt8) : ∀ acc, valFrom acc (l ++ r) = valFrom (valFrom acc l) r := by
  induction l with
  | nil => intro acc; rfl
  | cons c l ih => intro acc; exact ih _
theorem valFrom_ge (l : List UInt8) : ∀ acc, acc ≤ valFrom acc l := by
  induction l with
  | nil => intro acc; exact Nat.le_refl _
  | cons c l ih => intro acc; have := ih (acc * 10 + (c.toNat - 48)); unfold valFrom; omega
theorem digit_byte {k : Nat} (h : k < 10) : (UInt8.ofNat (48 + k)).toNat = 48 + k := by
  rw [UInt8.toNat_ofNat']; omega
theorem decDigits_last {u : Nat} (h : ¬ u < 10) : Lib.decDigits u = Lib.decDigits (u / 10) ++ [UInt8.ofNat (48 + u % 10)] := by
  rw [Lib.decDigits, dif_neg h]
theorem val_decDigits (u : Nat) : valFrom 0 (Lib.decDigits u) = u := by
  induction u using Nat.strongRecOn with
  | ind u ih =>
    by_cases h : u < 10
    · rw [Lib.decDigits_one h]
      show 0 * 10 + ((UInt8.ofNat (48 + u)).toNat - 48) = u
      rw [digit_byte h]; omega
    · rw [decDigits_last h, valFrom_append, ih (u / 10) (by omega)]
      show u / 10 * 10 + ((UInt8.ofNat (48 + u % 10)).toNat - 48) = u
      rw [digit_byte (by omega)]; omega
theorem dig_decDigits (u : Nat) : (Lib.decDigits u).all digB = true := by
  have hd : ∀ k, k < 10 → digB (UInt8.ofNat (48 + k)) = true := fun k hk => by
    unfold digB; rw [digit_byte hk]; simp; omega
  induction u using Nat.strongRecOn with
  | ind u ih =>
    by_cases h : u < 10
    · rw [Lib.decDigits_one h, List.all_cons, hd u h]; rfl
    · rw [decDigits_last h, List.all_append, ih (u / 10) (by omega), List.all_cons, hd _ (by omega)]; rfl
theorem decDigits_pos (u : Nat) : 0 < (Lib.decDigits u).length := by
  by_cases h : u < 10
  · rw [Lib.decDigits_one h]; simp
  · rw [decDigits_last h]; simp
theorem decDigits_len (u k : Nat) (hk : 0 < k) (h : u < 10 ^ k) : (Lib.decDigits u).length ≤ k := by
  induction k generalizing u with
  | zero => omega
  | succ k ih =>
    by_cases h10 : u < 10
    · rw [Lib.decDigits_one h10]; simp
    · rw [decDigits_last h10, List.length_append]
      have hk0 : 0 < k := by
        rcases Nat.eq_zero_or_pos k with rfl | h'
        · simp at h; omega
        · exact h'
      have := ih (u / 10) hk0 (by rw [Nat.pow_succ] at h; omega)
      simp; omega
theorem digitsB_dec (u : Nat) : digitsB (Lib.decDigits u) = true := by
  unfold digitsB; rw [dig_decDigits, decide_eq_true (decDigits_pos u)]; rfl
theorem digB_range {c : UInt8} (h : digB c = true) : 48 ≤ c.toNat ∧ c.toNat ≤ 57 := by
  unfold digB at h; simpa using h
theorem parse_digits (l : List UInt8) : ∀ acc, l.all digB = true → valFrom acc l < 18446744073709551616 → Lib.parseUint10 acc l = .ok (valFrom acc l) := by
  induction l with
  | nil => intro acc _ _; rfl
  | cons c l ih =>
    intro acc hd hv
    rw [List.all_cons, Bool.and_eq_true] at hd
    obtain ⟨h1, h2⟩ := digB_range hd.1
    unfold valFrom at hv
    have hge := valFrom_ge l (acc * 10 + (c.toNat - 48))
    unfold Lib.parseUint10 valFrom
    rw [if_pos ⟨h1, h2⟩, if_neg (by omega), if_neg (by omega)]
    exact ih _ hd.2 hv

/-- s is the numeral of the int m. -/
def Num (l : List UInt8) (m : Int) : Prop := -9223372036854775808 ≤ m ∧ m ≤ 9223372036854775807 ∧ Lib.itoa m = l
theorem dec_inj {u v : Nat} (h : Lib.decDigits u = Lib.decDigits v) : u = v := by
  have := congrArg (valFrom 0) h
  rwa [val_decDigits, val_decDigits] at this
theorem dec_head (u : Nat) : ∃ c r, Lib.decDigits u = c :: r ∧ digB c = true := by
  have h := decDigits_pos u
  have hd := dig_decDigits u
  match hl : Lib.decDigits u with
  | [] => rw [hl] at h; simp at h
  | c :: r => rw [hl, List.all_cons, Bool.and_eq_true] at hd; exact ⟨c, r, rfl, hd.1⟩
theorem itoa_inj {m n : Int} (h : Lib.itoa m = Lib.itoa n) : m = n := by
  have minus : ∀ u v : Nat, (45 : UInt8) :: Lib.decDigits u = Lib.decDigits v → False := fun u v h => by
    obtain ⟨c, r, hc, hd⟩ := dec_head v
    rw [hc] at h
    injection h with h1 _
    rw [← h1] at hd
    exact absurd hd (by decide)
  unfold Lib.itoa at h
  by_cases hm : m < 0 <;> by_cases hn : n < 0
  · rw [if_pos hm, if_pos hn] at h
    injection h with _ h
    have := dec_inj h; omega
  · rw [if_pos hm, if_neg hn] at h; exact (minus _ _ h).elim
  · rw [if_neg hm, if_pos hn] at h; exact (minus _ _ h.symm).elim
  · rw [if_neg hm, if_neg hn] at h
    have := dec_inj h; omega
theorem Num.unique {l : List UInt8} {m n : Int} (hm : Num l m) (hn : Num l n) : m = n := itoa_inj (hm.2.2.trans hn.2.2.symm)

theorem atoi_itoa {m : Int} (h0 : -9223372036854775808 ≤ m) (h1 : m ≤ 9223372036854775807) : Lib.atoiAll (Lib.itoa m) = .ok m := by
  have mag : ∀ u : Nat, u < 18446744073709551616 → Lib.parseMag (Lib.decDigits u) = .ok u := fun u hu => by
    unfold Lib.parseMag
    rw [if_neg (by intro h; have := decDigits_pos u; rw [h] at this; simp at this), parse_digits _ 0 (dig_decDigits u) (by rw [val_decDigits]; exact hu), val_decDigits]
  unfold Lib.itoa
  by_cases hm : m < 0
  · rw [if_pos hm]
    unfold Lib.atoiAll
    simp only [show ((45 : UInt8).toNat = 43 ∨ (45 : UInt8).toNat = 45) = True from by simp, if_true]
    rw [mag _ (by omega)]
    simp only [show ((45 : UInt8).toNat = 45) = True from by simp, not_true, false_and, if_false, true_and, if_true]
    rw [if_neg (by omega)]
    congr 1; omega
  · rw [if_neg hm]
    obtain ⟨c, r, hc, hd⟩ := dec_head m.toNat
    obtain ⟨d1, d2⟩ := digB_range hd
    rw [hc]
    unfold Lib.atoiAll
    simp only [show (c.toNat = 43 ∨ c.toNat = 45) = False from by simp; omega, if_false]
    rw [← hc, mag _ (by omega)]
    simp only [show (c.toNat = 45) = False from by simp; omega, not_false_eq_true, true_and, false_and, if_false]
    rw [if_neg (by omega)]
    congr 1; omega
/-- What ParseInt returns: the int whose numeral l is, or 0 and false. -/
def ParseIs (l : List UInt8) (v : Int) (b : Bool) : Prop := (b = true ∧ Num l v) ∨ (b = false ∧ v = 0 ∧ ∀ m, ¬ Num l m)
theorem ParseIs.unique {l : List UInt8} {v v' : Int} {b b' : Bool} (h : ParseIs l v b) (h' : ParseIs l v' b') : v = v' ∧ b = b' := by
  rcases h with ⟨rfl, h⟩ | ⟨rfl, rfl, h⟩ <;> rcases h' with ⟨rfl, h'⟩ | ⟨rfl, rfl, h'⟩
  · exact ⟨h.unique h', rfl⟩
  · exact (h' _ h).elim
  · exact (h _ h').elim
  · exact ⟨rfl, rfl⟩
end Go.Proofs.YtbfanjalinkmhaaDoor
