/- Plain facts on digits in groups of nine: what a text of digits is worth as a list of limbs; no program is named here. -/
import Derived.Test.YtbfanjalinkmhaaDoorVal2
import Derived.Test.YtbfanjalinkmhaaDoorNum
namespace Go.Proofs.YtbfanjalinkmhaaDoor
set_option maxRecDepth 100000
open Go.RowKit

theorem valFrom_cons (acc : Nat) (c : UInt8) (l : List UInt8) : valFrom acc (c :: l) = valFrom (acc * 10 + (c.toNat - 48)) l := by conv => lhs; unfold valFrom
theorem valFrom_nil (acc : Nat) : valFrom acc [] = acc := by unfold valFrom; rfl
theorem step10 (a d p v : Nat) : (a * 10 + d) * p + v = a * (p * 10) + ((0 * 10 + d) * p + v) := by
  rw [Nat.add_mul, Nat.add_mul, Nat.mul_assoc, Nat.mul_comm 10 p]; omega
theorem valFrom_acc (l : List UInt8) : ∀ acc, valFrom acc l = acc * 10 ^ l.length + valFrom 0 l := by
  induction l with
  | nil => intro acc; rw [valFrom_nil, valFrom_nil, List.length_nil, Nat.pow_zero]; omega
  | cons c l ih =>
    intro acc
    have h1 := ih (acc * 10 + (c.toNat - 48))
    have h2 := ih (0 * 10 + (c.toNat - 48))
    rw [valFrom_cons, valFrom_cons, h1, h2, List.length_cons, Nat.pow_succ]
    exact step10 acc (c.toNat - 48) (10 ^ l.length) (valFrom 0 l)
theorem valFrom_lt (l : List UInt8) : l.all digB = true → valFrom 0 l < 10 ^ l.length := by
  induction l with
  | nil => intro _; rw [valFrom_nil]; simp
  | cons c l ih =>
    intro h
    rw [List.all_cons, Bool.and_eq_true] at h
    obtain ⟨d1, d2⟩ := digB_range h.1
    have h3 := ih h.2
    rw [valFrom_cons, valFrom_acc, List.length_cons, Nat.pow_succ]
    have h4 : (0 * 10 + (c.toNat - 48)) * 10 ^ l.length ≤ 9 * 10 ^ l.length := Nat.mul_le_mul_right _ (by omega)
    omega
/-- The bytes of s from a up to b. -/
def seg (s : ByteArray) (a b : Nat) : List UInt8 := (s.data.toList.drop a).take (b - a)
theorem seg_nil (s : ByteArray) (a : Nat) : seg s a a = [] := by simp [seg]
theorem seg_len (s : ByteArray) (a b : Nat) (h : b ≤ s.size) : (seg s a b).length = b - a := by
  simp [seg]; omega
theorem seg_snoc (s : ByteArray) (a k : Nat) (ha : a ≤ k) (h : k < s.size) : seg s a (k + 1) = seg s a k ++ [s[k]] := by
  unfold seg
  have hl : k - a < (s.data.toList.drop a).length := by rw [List.length_drop, len_size]; omega
  rw [show k + 1 - a = (k - a) + 1 by omega, List.take_succ_eq_append_getElem hl, List.getElem_drop]
  congr 2
  have e : s[k] = s.data.toList[k]'(by rw [len_size]; exact h) := rfl
  rw [e]
  congr 1; omega
theorem seg_split (s : ByteArray) (a b : Nat) (ha : a ≤ b) : s.data.toList.take b = s.data.toList.take a ++ seg s a b := by
  unfold seg
  rw [← List.take_append_drop a (s.data.toList.take b), List.take_take, List.drop_take, Nat.min_eq_left ha]
theorem seg_all (s : ByteArray) (a b : Nat) (h : s.data.toList.all digB = true) : (seg s a b).all digB = true := by
  rw [List.all_eq_true] at h ⊢
  intro c hc
  exact h c (List.mem_of_mem_drop (List.mem_of_mem_take hc))
theorem valFrom_seg (s : ByteArray) (a b : Nat) (ha : a ≤ b) (hb : b ≤ s.size) : valFrom 0 (s.data.toList.take b) = valFrom 0 (s.data.toList.take a) * 10 ^ (b - a) + valFrom 0 (seg s a b) := by
  rw [seg_split s a b ha, valFrom_append, valFrom_acc, seg_len s a b hb]
/-- What the first e bytes of s are worth. -/
def worth (s : ByteArray) (e : Nat) : Int := (valFrom 0 (s.data.toList.take e) : Nat)
theorem worth_zero (s : ByteArray) : worth s 0 = 0 := by unfold worth; rw [List.take_zero, valFrom_nil]; rfl
theorem worth_nine (s : ByteArray) (e : Nat) (h9 : 9 ≤ e) (he : e ≤ s.size) : worth s e = worth s (e - 9) * 1000000000 + (valFrom 0 (seg s (e - 9) e) : Nat) := by
  unfold worth
  rw [valFrom_seg s (e - 9) e (by omega) he, show e - (e - 9) = 9 by omega]
  simp
theorem worth_last (s : ByteArray) (e : Nat) (he : e ≤ s.size) : worth s e = (valFrom 0 (seg s 0 e) : Nat) := by
  unfold worth
  rw [valFrom_seg s 0 e (by omega) he, List.take_zero, valFrom_nil]; simp
theorem seg_bd (s : ByteArray) (a b : Nat) (h : s.data.toList.all digB = true) (hb : b ≤ s.size) (h9 : b ≤ a + 9) : 0 ≤ ((valFrom 0 (seg s a b) : Nat) : Int) ∧ ((valFrom 0 (seg s a b) : Nat) : Int) ≤ 999999999 := by
  have h1 := valFrom_lt _ (seg_all s a b h)
  rw [seg_len s a b hb] at h1
  have h2 : 10 ^ (b - a) ≤ 10 ^ 9 := Nat.pow_le_pow_right (by omega) (by omega)
  omega
/-- The text of a natural number of at most 540 digits. -/
def NatText (s : ByteArray) : Prop := digitsB s.data.toList = true ∧ s.size ≤ 540 ∧ (s.size ≤ 1 ∨ s.data.toList.head? ≠ some 48)
/-- What ParseNat returns. -/
def ParseNatIs (s : ByteArray) (r : List Int) (b : Bool) : Prop := (b = true ∧ NatText s ∧ Canon r ∧ val r = worth s s.size) ∨ (b = false ∧ r = [] ∧ ¬ NatText s)
theorem parseNat_unique {s : ByteArray} {r r' : List Int} {b b' : Bool} (h : ParseNatIs s r b) (h' : ParseNatIs s r' b') : r = r' ∧ b = b' := by
  rcases h with ⟨rfl, h1, h2, h3⟩ | ⟨rfl, rfl, h1⟩ <;> rcases h' with ⟨rfl, k1, k2, k3⟩ | ⟨rfl, rfl, k1⟩
  · exact ⟨canon_unique h2 k2 (h3.trans k3.symm), rfl⟩
  · exact absurd h1 k1
  · exact absurd k1 h1
  · exact ⟨rfl, rfl⟩
/-- Limbs off the end of s: e bytes are left (none where e is not positive). -/
def LimbsAt (s : ByteArray) (e : Int) (out : List Int) : Prop := InR out ∧ val out + pw out.length * worth s e.toNat = worth s s.size ∧ e + 9 * out.length = s.size
theorem LimbsAt.start (s : ByteArray) : LimbsAt s s.size [] := ⟨InR.nil, by simp [val, pw], by simp⟩
theorem LimbsAt.step {s : ByteArray} {e : Int} {out : List Int} (h : LimbsAt s e out) (h0 : 0 < e) (he : e ≤ s.size) (hd : s.data.toList.all digB = true) {a : Nat} (ha : (a : Int) = if e - 9 < 0 then 0 else e - 9) :
    LimbsAt s (e - 9) (out ++ [((valFrom 0 (seg s a e.toNat) : Nat) : Int)]) ∧ 0 ≤ ((valFrom 0 (seg s a e.toNat) : Nat) : Int) ∧ ((valFrom 0 (seg s a e.toNat) : Nat) : Int) ≤ 999999999 := by
  obtain ⟨h1, h2, h3⟩ := h
  have hb := seg_bd s a e.toNat hd (by omega) (by split at ha <;> omega)
  refine ⟨⟨h1.append (InR.one hb.1 hb.2), ?_, by rw [List.length_append, List.length_singleton]; omega⟩, hb.1, hb.2⟩
  rw [val_snoc, List.length_append, List.length_singleton, pw_add, show pw 1 = 1000000000 from rfl, ← h2]
  by_cases h9 : e < 9
  · rw [show (e - 9).toNat = 0 by omega, worth_zero, worth_last s e.toNat (by omega), show a = 0 by split at ha <;> omega]; simp
  · rw [worth_nine s e.toNat (by omega) (by omega), show (e - 9).toNat = e.toNat - 9 by omega, show a = e.toNat - 9 by split at ha <;> omega]
    grind
theorem LimbsAt.done {s : ByteArray} {e : Int} {out : List Int} (h : LimbsAt s e out) (h0 : e ≤ 0) : InR out ∧ val out = worth s s.size := by
  refine ⟨h.1, ?_⟩
  have h2 := h.2.1
  rw [show e.toNat = 0 by omega, worth_zero, Int.mul_zero, Int.add_zero] at h2
  exact h2
/-- Limbs off the end of s, stored at their places: i are stored. -/
def PlacedAt (s : ByteArray) (M i : Nat) (os : List Int) : Prop := os.length = M ∧ InR os ∧ val os + pw i * worth s (s.size - 9 * i) = worth s s.size ∧ ZeroFrom os i ∧ (i = M → os.getLast? ≠ some 0)
theorem PlacedAt.start (s : ByteArray) (M : Nat) (hM : 0 < M) : PlacedAt s M 0 (List.replicate M 0) := ⟨by simp, zeros_inR _, by rw [zeros_val]; simp [pw], zeros_from _ _, fun h => by omega⟩
theorem first_pos (s : ByteArray) (e : Nat) (he : 0 < e) (hs : e ≤ s.size) (hd : s.data.toList.all digB = true) (h0 : s.data.toList.head? ≠ some 48) : 0 < valFrom 0 (seg s 0 e) := by
  unfold seg
  rw [List.drop_zero, Nat.sub_zero]
  match hl : s.data.toList with
  | [] => have := len_size s; rw [hl] at this; simp at this; omega
  | c :: r =>
    rw [hl, List.all_cons, Bool.and_eq_true] at hd
    rw [hl] at h0
    obtain ⟨d1, d2⟩ := digB_range hd.1
    have hc : c.toNat ≠ 48 := fun e => h0 (by
      have : c = 48 := UInt8.toNat_inj.1 e
      rw [this]; rfl)
    obtain ⟨e', rfl⟩ : ∃ e', e = e' + 1 := ⟨e - 1, by omega⟩
    rw [List.take_succ_cons, valFrom_cons]
    have := valFrom_ge (r.take e') (0 * 10 + (c.toNat - 48))
    omega
theorem PlacedAt.step {s : ByteArray} {M i : Nat} {os : List Int} (h : PlacedAt s M i os) (hi : i < M) (hlo : 9 * i < s.size) (hM : s.size ≤ 9 * M) (hM2 : 9 * M < s.size + 9) (hd : s.data.toList.all digB = true) (h0 : s.data.toList.head? ≠ some 48) {a : Nat} (ha : a = s.size - 9 * i - 9) :
    PlacedAt s M (i + 1) (os.set i ((valFrom 0 (seg s a (s.size - 9 * i)) : Nat) : Int)) ∧ 0 ≤ ((valFrom 0 (seg s a (s.size - 9 * i)) : Nat) : Int) ∧ ((valFrom 0 (seg s a (s.size - 9 * i)) : Nat) : Int) ≤ 999999999 := by
  obtain ⟨h1, h2, h3, h4, h5⟩ := h
  have hb := seg_bd s a (s.size - 9 * i) hd (by omega) (by omega)
  have hio : i < os.length := by omega
  refine ⟨⟨by simpa using h1, h2.set i hb.1 hb.2, ?_, h4.set_last _, fun e => ?_⟩, hb.1, hb.2⟩
  · rw [val_set _ _ _ hio, h4 i hio (Nat.le_refl _), pw, ← h3]
    by_cases h9 : s.size - 9 * i < 9
    · rw [show s.size - 9 * (i + 1) = 0 by omega, worth_zero, worth_last s (s.size - 9 * i) (by omega), show a = 0 by omega]; simp
    · rw [worth_nine s (s.size - 9 * i) (by omega) (by omega), show s.size - 9 * (i + 1) = s.size - 9 * i - 9 by omega, ha]
      grind
  · rw [last_at (m := i) (by simp; omega), List.getElem_set_self]
    have := first_pos s (s.size - 9 * i) (by omega) (by omega) hd h0
    rw [show a = 0 by omega]
    simp; omega
theorem PlacedAt.done {s : ByteArray} {M : Nat} {os : List Int} (h : PlacedAt s M M os) (hM : s.size ≤ 9 * M) : Canon os ∧ val os = worth s s.size := by
  obtain ⟨h1, h2, h3, h4, h5⟩ := h
  rw [show s.size - 9 * M = 0 by omega, worth_zero, Int.mul_zero, Int.add_zero] at h3
  exact ⟨⟨h2, h5 rfl⟩, h3⟩
end Go.Proofs.YtbfanjalinkmhaaDoor
