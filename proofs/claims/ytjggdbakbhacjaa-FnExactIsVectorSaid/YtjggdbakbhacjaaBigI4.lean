/- Contracts of the program's big integers: comparison, floor division. -/
import Derived.Test.YtjggdbakbhacjaaBigI3
import Derived.Test.YtjggdbakbhacjaaIm9
namespace Go.Proofs.Ytjggdbakbhacjaa
set_option maxRecDepth 100000
open Go.RowKit

theorem cmpV_anti (a b : Int) : cmpV b a = - cmpV a b := by
  unfold cmpV
  by_cases h : a < b
  · rw [if_neg (by omega), if_neg (by omega), if_pos h]; rfl
  · by_cases e : a = b
    · subst e; simp
    · rw [if_pos (by omega), if_neg h, if_neg e]
theorem cmp_s_lt {s t : Int} {a b : List Int} (k1 : SOk s a) (k2 : SOk t b) (h : s < t) : s * val a < t * val b := by
  rcases k1.2 with ⟨rfl, h1⟩ | ⟨rfl, h1⟩ | ⟨rfl, h1⟩ <;> rcases k2.2 with ⟨rfl, h2⟩ | ⟨rfl, h2⟩ | ⟨rfl, h2⟩ <;> omega
theorem cmp_s_eq {s : Int} {a b : List Int} (k1 : SOk s a) : s * cmpV (val a) (val b) = cmpV (s * val a) (s * val b) := by
  rcases k1.2 with ⟨rfl, h1⟩ | ⟨rfl, h1⟩ | ⟨rfl, h1⟩
  · rw [show (-1 : Int) * val a = - val a by omega, show (-1 : Int) * val b = - val b by omega, cmp_neg, cmpV_anti]; omega
  · rw [Int.zero_mul, Int.zero_mul, Int.zero_mul, cmpV_eq rfl]
  · rw [Int.one_mul, Int.one_mul, Int.one_mul]

theorem apart_with {u v : Value} {A : Option Addr} {n c : Nat} (h : Apart u (.slice A n c)) (hv : v = .slice A n c ∨ v = .slice none 0 0) : Apart u v := by
  rcases hv with rfl | rfl
  · exact h
  · intro k _ hk; simp [Value.ownBlock] at hk
end Go.Proofs.Ytjggdbakbhacjaa
