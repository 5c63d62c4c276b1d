/- Plain facts on bytes and lists that the walks of the text utilities use; no program is named here. -/
import Derived.WalkKit
import Derived.WalkSpells
import Derived.WalkLawsBesides
import Derived.Lib.Hide
import Derived.Lib.Strings
namespace Go.Proofs.Ytjggdbakbhacjaa
set_option maxRecDepth 100000
open Go.RowKit

theorem ret_bool {a b : Bool} (h : a = b) : Ending.returned (.bool a) = .returned (.bool b) := by rw [h]
theorem ret_str {a b : ByteArray} (h : a = b) : Ending.returned (.string a) = .returned (.string b) := by rw [h]
theorem ret_int {k : IntKind} {a b : Int} (h : a = b) : Ending.returned (.int k a) = .returned (.int k b) := by rw [h]

/-- A digit's byte. -/
def digB (c : UInt8) : Bool := decide (48 ≤ c.toNat) && decide (c.toNat ≤ 57)
/-- A small letter's byte. -/
def lowB (c : UInt8) : Bool := decide (97 ≤ c.toNat) && decide (c.toNat ≤ 122)
def digitsB (l : List UInt8) : Bool := l.all digB && decide (0 < l.length)

theorem take_snoc (s : ByteArray) (k : Nat) (h : k < s.size) : s.data.toList.take (k + 1) = s.data.toList.take k ++ [s[k]] := by
  rw [List.take_succ_eq_append_getElem (by simpa using h)]; rfl
theorem take_all (s : ByteArray) (k : Nat) (h : s.size ≤ k) : s.data.toList.take k = s.data.toList :=
  List.take_of_length_le (by simpa using h)
theorem mem_at (s : ByteArray) (k : Nat) (h : k < s.size) : s[k] ∈ s.data.toList := by
  have : s[k] = s.data.toList[k]'(by simpa using h) := rfl
  rw [this]; exact List.getElem_mem _
theorem len_size (s : ByteArray) : s.data.toList.length = s.size := rfl

theorem digitsB_yes (s : ByteArray) (k : Nat) (hk : s.size ≤ k) (h : (s.data.toList.take k).all digB = true) (hp : 0 < s.size) : digitsB s.data.toList = true := by
  rw [take_all s k hk] at h
  unfold digitsB
  rw [h, len_size, decide_eq_true hp]; rfl
theorem digitsB_nil (s : ByteArray) (h : s.size = 0) : digitsB s.data.toList = false := by
  unfold digitsB
  rw [len_size, decide_eq_false (by omega), Bool.and_false]
theorem digitsB_no (s : ByteArray) (k : Nat) (hk : k < s.size) (h : digB s[k] = false) : digitsB s.data.toList = false := by
  unfold digitsB
  rw [Bool.and_eq_false_iff]; left
  rw [List.all_eq_false]
  exact ⟨_, mem_at s k hk, by simp [h]⟩
theorem all_snoc (p : UInt8 → Bool) (s : ByteArray) (k : Nat) (hk : k < s.size) (h : (s.data.toList.take k).all p = true) (hp : p s[k] = true) : (s.data.toList.take (k + 1)).all p = true := by
  rw [take_snoc s k hk, List.all_append, h]; simp [hp]
theorem digB_yes (c : UInt8) (h1 : 48 ≤ (c.toNat : Int)) (h2 : (c.toNat : Int) ≤ 57) : digB c = true := by
  unfold digB; simp; omega
theorem digB_lo (c : UInt8) (h1 : (c.toNat : Int) < 48) : digB c = false := by
  unfold digB; simp; omega
theorem digB_hi (c : UInt8) (h1 : 57 < (c.toNat : Int)) : digB c = false := by
  unfold digB; simp; omega

theorem toList_some (s : ByteArray) (h : 0 < s.size) : s.toList.isEmpty = false := by
  rw [Lib.toList_data, List.isEmpty_eq_false_iff]
  intro e
  have : s.data.toList.length = 0 := by rw [e]; rfl
  rw [len_size] at this; omega
theorem toList_none (s : ByteArray) (h : s.size = 0) : s.toList.isEmpty = true := by
  rw [Lib.toList_data, List.isEmpty_iff]
  exact List.eq_nil_of_length_eq_zero h

/-- Byte c may stand at place i of a name. -/
def nameAt (i : Nat) (c : UInt8) : Bool := lowB c || (decide (0 < i) && digB c)
def nameB (s : ByteArray) : Bool := decide (1 ≤ s.size) && decide (s.size ≤ 8) && decide (∀ j : Fin s.size, nameAt j.1 s[j.1] = true)
/-- The first k bytes may stand where they stand. -/
def NameTo (s : ByteArray) (k : Nat) : Prop := ∀ j (h : j < s.size), j < k → nameAt j s[j] = true
theorem NameTo.zero (s : ByteArray) : NameTo s 0 := fun _ _ h => absurd h (by omega)
theorem NameTo.succ {s : ByteArray} {k : Nat} (h : NameTo s k) (hk : k < s.size) (hc : nameAt k s[k] = true) : NameTo s (k + 1) := by
  intro j hj hlt
  by_cases e : j = k
  · subst e; exact hc
  · exact h j hj (by omega)
theorem nameB_no (s : ByteArray) (k : Nat) (hk : k < s.size) (h : nameAt k s[k] = false) : nameB s = false := by
  unfold nameB
  rw [Bool.and_eq_false_iff]; right
  rw [decide_eq_false_iff_not]
  intro hall
  have := hall ⟨k, hk⟩
  rw [h] at this; cases this
theorem nameB_yes (s : ByteArray) (k : Nat) (hk : s.size ≤ k) (h : NameTo s k) (h1 : 1 ≤ s.size) (h8 : s.size ≤ 8) : nameB s = true := by
  unfold nameB
  rw [decide_eq_true h1, decide_eq_true h8, Bool.true_and, Bool.true_and, decide_eq_true_iff]
  exact fun j => h j.1 j.2 (by omega)
theorem nameB_nil (s : ByteArray) (h : s.size = 0) : nameB s = false := by
  unfold nameB
  rw [decide_eq_false (by omega)]; rfl
theorem nameB_long (s : ByteArray) (h : 8 < s.size) : nameB s = false := by
  unfold nameB
  rw [decide_eq_false (p := s.size ≤ 8) (by omega)]; simp
theorem lowB_yes (c : UInt8) (h1 : 97 ≤ (c.toNat : Int)) (h2 : (c.toNat : Int) ≤ 122) : lowB c = true := by
  unfold lowB; simp; omega
theorem lowB_lo (c : UInt8) (h1 : (c.toNat : Int) < 97) : lowB c = false := by
  unfold lowB; simp; omega
theorem lowB_hi (c : UInt8) (h1 : 122 < (c.toNat : Int)) : lowB c = false := by
  unfold lowB; simp; omega
theorem nameAt_low (i : Nat) (c : UInt8) (h : lowB c = true) : nameAt i c = true := by unfold nameAt; rw [h]; rfl
theorem nameAt_dig (i : Nat) (c : UInt8) (h : digB c = true) (hi : 0 < i) : nameAt i c = true := by unfold nameAt; rw [h, decide_eq_true hi]; simp
theorem nameAt_zero (i : Nat) (c : UInt8) (h : lowB c = false) (hi : i = 0) : nameAt i c = false := by unfold nameAt; rw [h, hi]; rfl
theorem nameAt_no (i : Nat) (c : UInt8) (h : lowB c = false) (hd : digB c = false) : nameAt i c = false := by unfold nameAt; rw [h, hd]; simp

/-- Rune r is what a range over a string finds at the byte c: c itself, or, where c is beyond ASCII, a rune beyond ASCII. -/
def RuneOf (c : UInt8) (r : Nat) : Prop := r = c.toNat ∨ (128 ≤ c.toNat ∧ 128 ≤ r)
section
variable {c : UInt8} {r : Nat}
theorem RuneOf.low (h : RuneOf c r) (h1 : 97 ≤ r) (h2 : r ≤ 122) : lowB c = true := by
  rcases h with rfl | h
  · exact lowB_yes _ (by omega) (by omega)
  · omega
theorem RuneOf.dig (h : RuneOf c r) (h1 : 48 ≤ r) (h2 : r ≤ 57) : digB c = true := by
  rcases h with rfl | h
  · exact digB_yes _ (by omega) (by omega)
  · omega
theorem RuneOf.notLow (h : RuneOf c r) (hn : ¬ (97 ≤ (r : Int) ∧ (r : Int) ≤ 122)) : lowB c = false := by
  rcases h with rfl | h
  · by_cases a : (c.toNat : Int) < 97
    · exact lowB_lo _ a
    · exact lowB_hi _ (by omega)
  · exact lowB_hi _ (by omega)
theorem RuneOf.notDig (h : RuneOf c r) (hn : ¬ (48 ≤ (r : Int) ∧ (r : Int) ≤ 57)) : digB c = false := by
  rcases h with rfl | h
  · by_cases a : (c.toNat : Int) < 48
    · exact digB_lo _ a
    · exact digB_hi _ (by omega)
  · exact digB_hi _ (by omega)
end
theorem bytes_eta' (s : ByteArray) : (⟨s.data.toList.toArray⟩ : ByteArray) = s := by simp
end Go.Proofs.Ytjggdbakbhacjaa
