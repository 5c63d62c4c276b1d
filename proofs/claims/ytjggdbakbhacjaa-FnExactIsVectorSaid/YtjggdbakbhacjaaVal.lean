/- Plain facts on lists of limbs in base 1000000000: what they are worth, when they are told by their worth; no program is named here. -/
import Derived.Test.YtjggdbakbhacjaaBase
namespace Go.Proofs.Ytjggdbakbhacjaa
set_option maxRecDepth 100000

/-- What a list of limbs is worth. -/
def val : List Int → Int
  | [] => 0
  | d :: r => d + 1000000000 * val r
def pw : Nat → Int
  | 0 => 1
  | k + 1 => 1000000000 * pw k
def InR (l : List Int) : Prop := ∀ d ∈ l, 0 ≤ d ∧ d ≤ 999999999
/-- A natural number's list: limbs in range, no zero at its end. -/
def Canon (l : List Int) : Prop := InR l ∧ l.getLast? ≠ some 0
theorem pw_pos : ∀ k, 0 < pw k
  | 0 => by decide
  | k + 1 => by have := pw_pos k; unfold pw; omega
theorem pw_add (a b : Nat) : pw (a + b) = pw a * pw b := by
  induction a with
  | zero => simp [pw]
  | succ a ih => rw [Nat.succ_add, pw, pw, ih, Int.mul_assoc]
theorem InR.cons {d : Int} {r : List Int} (h : InR (d :: r)) : (0 ≤ d ∧ d ≤ 999999999) ∧ InR r := ⟨h d (by simp), fun x hx => h x (by simp [hx])⟩
theorem InR.append {l r : List Int} (h : InR l) (k : InR r) : InR (l ++ r) := fun d hd => by
  rcases List.mem_append.1 hd with hd | hd
  · exact h d hd
  · exact k d hd
theorem InR.one {d : Int} (h0 : 0 ≤ d) (h1 : d ≤ 999999999) : InR [d] := fun x hx => by
  have : x = d := by simpa using hx
  subst this; exact ⟨h0, h1⟩
theorem InR.nil : InR [] := fun _ h => by cases h
theorem InR.take {l : List Int} (h : InR l) (k : Nat) : InR (l.take k) := fun d hd => h d (List.mem_of_mem_take hd)
theorem InR.drop {l : List Int} (h : InR l) (k : Nat) : InR (l.drop k) := fun d hd => h d (List.mem_of_mem_drop hd)
theorem val_append (l r : List Int) : val (l ++ r) = val l + pw l.length * val r := by
  induction l with
  | nil => simp [val, pw]
  | cons d l ih =>
    rw [List.cons_append, val, ih, val, List.length_cons, pw, Int.mul_add, Int.mul_assoc]; omega
theorem val_snoc (l : List Int) (d : Int) : val (l ++ [d]) = val l + pw l.length * d := by rw [val_append]; simp [val]
theorem val_nonneg : ∀ {l : List Int}, InR l → 0 ≤ val l
  | [], _ => Int.le_refl _
  | d :: r, h => by
    have h1 := h.cons
    have h2 := val_nonneg h1.2
    unfold val; omega
theorem val_lt : ∀ {l : List Int}, InR l → val l < pw l.length
  | [], _ => by simp [val, pw]
  | d :: r, h => by
    have h1 := h.cons
    have h2 := val_lt h1.2
    rw [List.length_cons, pw]; unfold val; omega
theorem canon_nil : Canon [] := ⟨InR.nil, by simp⟩
theorem Canon.tail {d : Int} {r : List Int} (h : Canon (d :: r)) : Canon r := by
  refine ⟨h.1.cons.2, fun e => ?_⟩
  cases r with
  | nil => simp at e
  | cons x r => exact h.2 (by rw [List.getLast?_cons_cons]; exact e)
theorem canon_zero : ∀ {l : List Int}, Canon l → val l = 0 → l = []
  | [], _, _ => rfl
  | d :: r, h, hv => by
    have h1 := h.1.cons
    have h2 := val_nonneg h1.2
    unfold val at hv
    have h3 : val r = 0 := by omega
    have h4 := canon_zero h.tail h3
    subst h4
    exact absurd (show [d].getLast? = some 0 by simp; omega) h.2
theorem canon_unique : ∀ {l m : List Int}, Canon l → Canon m → val l = val m → l = m
  | [], m, _, hm, h => (canon_zero hm h.symm).symm
  | d :: r, [], hl, _, h => canon_zero hl h
  | d :: r, e :: s, hl, hm, h => by
    have h1 := hl.1.cons
    have h2 := hm.1.cons
    unfold val at h
    have hd : d = e := by omega
    subst hd
    rw [canon_unique hl.tail hm.tail (by omega)]
theorem Canon.snoc {l : List Int} {d : Int} (h : InR l) (h0 : 0 < d) (h1 : d ≤ 999999999) : Canon (l ++ [d]) :=
  ⟨h.append (InR.one (by omega) h1), by simp; omega⟩
theorem canon_lower {l : List Int} (h : Canon l) (h0 : l ≠ []) : pw (l.length - 1) ≤ val l := by
  obtain ⟨m, d, rfl⟩ : ∃ m d, l = m ++ [d] := ⟨l.dropLast, l.getLast h0, (List.dropLast_concat_getLast h0).symm⟩
  have hm : InR m := fun x hx => h.1 x (by simp [hx])
  have hd := h.1 d (by simp)
  have hd0 : d ≠ 0 := fun e => h.2 (by simp [e])
  rw [val_snoc]
  have h1 := val_nonneg hm
  have h2 := pw_pos m.length
  have h3 : pw m.length * 1 ≤ pw m.length * d := Int.mul_le_mul_of_nonneg_left (by omega) (by omega)
  simp; omega
theorem pw_mono {a b : Nat} (h : a ≤ b) : pw a ≤ pw b := by
  obtain ⟨c, rfl⟩ := Nat.le.dest h
  rw [pw_add]
  have h1 := pw_pos a
  have h2 := pw_pos c
  have h3 : pw a * 1 ≤ pw a * pw c := Int.mul_le_mul_of_nonneg_left (by omega) (by omega)
  omega

/-- What NatOf returns. -/
def NatOfIs (n : Int) (r : List Int) : Prop := Canon r ∧ val r = if n ≤ 0 then 0 else n
theorem natOf_unique {n : Int} {r r' : List Int} (h : NatOfIs n r) (h' : NatOfIs n r') : r = r' := canon_unique h.1 h'.1 (h.2.trans h'.2.symm)

/-- A natural number of at most 60 limbs. -/
def Ok (l : List Int) : Prop := Canon l ∧ l.length ≤ 60
def NatOkIs (l : List Int) (b : Bool) : Prop := b = true ↔ Ok l
theorem natOk_unique {l : List Int} {b b' : Bool} (h : NatOkIs l b) (h' : NatOkIs l b') : b = b' := by
  unfold NatOkIs at h h'
  rw [Bool.eq_iff_iff, h, h']
theorem InR.snoc_take {l : List Int} {k : Nat} (h : InR (l.take k)) (hk : k < l.length) (h0 : 0 ≤ l[k]) (h1 : l[k] ≤ 999999999) : InR (l.take (k + 1)) := by
  rw [List.take_succ_eq_append_getElem hk]; exact h.append (InR.one h0 h1)
theorem not_inR {l : List Int} {k : Nat} (hk : k < l.length) (h : l[k] < 0 ∨ 999999999 < l[k]) : ¬ InR l := fun hi => by
  have := hi _ (List.getElem_mem hk); omega
theorem last_at {l : List Int} {m : Nat} (h : l.length = m + 1) : l.getLast? = some (l[m]'(by omega)) := by
  rw [List.getLast?_eq_getElem?, show l.length - 1 = m by omega, List.getElem?_eq_getElem (by omega)]

/-- The first m limbs, behind which all are zero. -/
def ZeroFrom (l : List Int) (m : Nat) : Prop := ∀ j (h : j < l.length), m ≤ j → l[j] = 0
theorem zeroFrom_pred {l : List Int} {m : Nat} (h : ZeroFrom l (m + 1)) (hm : m < l.length) (h0 : l[m] = 0) : ZeroFrom l m := by
  intro j hj hle
  by_cases e : j = m
  · subst e; exact h0
  · exact h j hj (by omega)
theorem val_zero : ∀ {l : List Int}, (∀ d ∈ l, d = 0) → val l = 0
  | [], _ => rfl
  | d :: r, h => by
    have h1 := h d (by simp)
    have h2 := val_zero (l := r) (fun x hx => h x (by simp [hx]))
    unfold val; omega
theorem val_trim {l : List Int} {m : Nat} (h : ZeroFrom l m) : val (l.take m) = val l := by
  have h1 : val (l.drop m) = 0 := val_zero (fun d hd => by
    obtain ⟨j, hj, rfl⟩ := List.mem_iff_getElem.1 hd
    rw [List.getElem_drop]; exact h _ _ (by omega))
  conv => rhs; rw [← List.take_append_drop m l]
  rw [val_append, h1]; simp
/-- l cut to its first m limbs: none but zeros is cut off, no zero stands at the end. -/
def Trimmed (l : List Int) (m : Nat) : Prop := m ≤ l.length ∧ ZeroFrom l m ∧ (l.take m).getLast? ≠ some 0
theorem Trimmed.canon {l : List Int} {m : Nat} (h : Trimmed l m) (hr : InR l) : Canon (l.take m) ∧ val (l.take m) = val l := ⟨⟨hr.take m, h.2.2⟩, val_trim h.2.1⟩
theorem take_last {l : List Int} {m : Nat} (h : m < l.length) : (l.take (m + 1)).getLast? = some l[m] := by
  rw [List.take_succ_eq_append_getElem h, List.getLast?_append, List.getLast?_singleton]; rfl
/-- What has more than 60 limbs is cut to nothing. -/
def cap (l : List Int) : List Int := if 60 < l.length then [] else l

def cmpV (x y : Int) : Int := if x < y then -1 else if x = y then 0 else 1
theorem cmpV_lt {x y : Int} (h : x < y) : cmpV x y = -1 := by unfold cmpV; rw [if_pos h]
theorem cmpV_gt {x y : Int} (h : y < x) : cmpV x y = 1 := by unfold cmpV; rw [if_neg (by omega), if_neg (by omega)]
theorem cmpV_eq {x y : Int} (h : x = y) : cmpV x y = 0 := by unfold cmpV; rw [if_neg (by omega), if_pos h]
theorem shorter_lt {l m : List Int} (hl : InR l) (hm : Canon m) (h : l.length < m.length) : val l < val m := by
  have h1 := val_lt hl
  have h2 := canon_lower hm (by intro e; subst e; simp at h)
  have h3 := pw_mono (show l.length ≤ m.length - 1 by omega)
  omega
/-- The first place from the top at which two lists of one length part decides. -/
theorem top_lt {l m : List Int} {k : Nat} (hl : InR l) (hm : InR m) (hk : k < l.length) (hkm : k < m.length) (hd : l.drop (k + 1) = m.drop (k + 1)) (h : l[k] < m[k]) : val l < val m := by
  have e1 : l = l.take k ++ (l[k] :: l.drop (k + 1)) := by rw [← List.drop_eq_getElem_cons hk, List.take_append_drop]
  have e2 : m = m.take k ++ (m[k] :: m.drop (k + 1)) := by rw [← List.drop_eq_getElem_cons hkm, List.take_append_drop]
  have v1 : val l = val (l.take k) + pw k * (l[k] + 1000000000 * val (l.drop (k + 1))) := by
    conv => lhs; rw [e1]
    rw [val_append, List.length_take, Nat.min_eq_left (by omega)]; rfl
  have v2 : val m = val (m.take k) + pw k * (m[k] + 1000000000 * val (m.drop (k + 1))) := by
    conv => lhs; rw [e2]
    rw [val_append, List.length_take, Nat.min_eq_left (by omega)]; rfl
  have b1 := val_lt (hl.take k)
  rw [List.length_take, Nat.min_eq_left (by omega)] at b1
  have b2 := val_nonneg (hm.take k)
  rw [v1, v2, hd]
  have h3 : pw k * (l[k] + 1000000000 * val (m.drop (k + 1)) + 1) ≤ pw k * (m[k] + 1000000000 * val (m.drop (k + 1))) :=
    Int.mul_le_mul_of_nonneg_left (by omega) (by have := pw_pos k; omega)
  rw [Int.mul_add _ _ 1, Int.mul_one] at h3
  omega
theorem drop_step {l m : List Int} {k : Nat} (hk : k < l.length) (hkm : k < m.length) (hd : l.drop (k + 1) = m.drop (k + 1)) (h : l[k] = m[k]) : l.drop k = m.drop k := by
  rw [List.drop_eq_getElem_cons hk, List.drop_eq_getElem_cons hkm, hd, h]
/-- What NatCmp returns. -/
def NatCmpIs (a b : List Int) (r : Int) : Prop := (Ok a ∧ Ok b ∧ r = cmpV (val a) (val b)) ∨ (¬ (Ok a ∧ Ok b) ∧ r = 0)
theorem natCmp_unique {a b : List Int} {r r' : Int} (h : NatCmpIs a b r) (h' : NatCmpIs a b r') : r = r' := by
  rcases h with ⟨h1, h2, h3⟩ | ⟨h1, h3⟩ <;> rcases h' with ⟨h4, h5, h6⟩ | ⟨h4, h6⟩
  · rw [h3, h6]
  · exact absurd ⟨h1, h2⟩ h4
  · exact absurd ⟨h4, h5⟩ h1
  · rw [h3, h6]

/-- What an operation returns that asks P and is worth t: the list of t, cut to nothing beyond 60 limbs; nothing where P fails. -/
def BinIs (P : Prop) (t : Int) (r : List Int) : Prop := (P ∧ ∃ l, Canon l ∧ val l = t ∧ r = cap l) ∨ (¬ P ∧ r = [])
theorem binIs_unique {P : Prop} {t : Int} {r r' : List Int} (h : BinIs P t r) (h' : BinIs P t r') : r = r' := by
  rcases h with ⟨h1, l, h2, h3, rfl⟩ | ⟨h1, rfl⟩ <;> rcases h' with ⟨h4, m, h5, h6, rfl⟩ | ⟨h4, rfl⟩
  · rw [canon_unique h2 h5 (h3.trans h6.symm)]
  · exact absurd h1 h4
  · exact absurd h4 h1
  · rfl
def NatAddIs (a b r : List Int) : Prop := BinIs (Ok a ∧ Ok b) (val a + val b) r
def NatSubIs (a b r : List Int) : Prop := BinIs (Ok a ∧ Ok b ∧ val b ≤ val a) (val a - val b) r
def NatMulIs (a b r : List Int) : Prop := BinIs (Ok a ∧ Ok b) (val a * val b) r
theorem natAdd_unique {a b r r' : List Int} (h : NatAddIs a b r) (h' : NatAddIs a b r') : r = r' := binIs_unique h h'
theorem natSub_unique {a b r r' : List Int} (h : NatSubIs a b r) (h' : NatSubIs a b r') : r = r' := binIs_unique h h'
theorem natMul_unique {a b r r' : List Int} (h : NatMulIs a b r) (h' : NatMulIs a b r') : r = r' := binIs_unique h h'
theorem Canon.ok {l : List Int} (h : Canon l) (h60 : l.length ≤ 60) : Ok l ∧ cap l = l := ⟨⟨h, h60⟩, by unfold cap; rw [if_neg (by omega)]⟩

theorem val_set : ∀ (l : List Int) (k : Nat) (d : Int) (h : k < l.length), val (l.set k d) = val l + pw k * (d - l[k])
  | a :: r, 0, d, _ => by simp [val, pw]; omega
  | a :: r, k + 1, d, h => by
    have ih := val_set r k d (by simpa using h)
    rw [List.set_cons_succ, val, val, ih, pw, List.getElem_cons_succ, Int.mul_add, Int.mul_assoc]; omega
theorem InR.set {l : List Int} (h : InR l) (k : Nat) {d : Int} (h0 : 0 ≤ d) (h1 : d ≤ 999999999) : InR (l.set k d) := fun x hx => by
  rcases List.mem_or_eq_of_mem_set hx with hx | rfl
  · exact h x hx
  · exact ⟨h0, h1⟩
theorem ZeroFrom.set {l : List Int} {m k : Nat} (h : ZeroFrom l m) (hk : k < m) (d : Int) : ZeroFrom (l.set k d) m := fun j hj hle => by
  rw [List.getElem_set_ne (by omega)]; exact h j (by simpa using hj) hle
theorem ZeroFrom.set_last {l : List Int} {m : Nat} (h : ZeroFrom l m) (d : Int) : ZeroFrom (l.set m d) (m + 1) := fun j hj hle => by
  rw [List.getElem_set_ne (by omega)]; exact h j (by simpa using hj) (by omega)
theorem prod_bd {x y : Int} (x0 : 0 ≤ x) (x1 : x ≤ 999999999) (y0 : 0 ≤ y) (y1 : y ≤ 999999999) : 0 ≤ x * y ∧ x * y ≤ 999999998000000001 := by
  have h1 := Int.mul_nonneg x0 y0
  have h2 : x * y ≤ 999999999 * y := Int.mul_le_mul_of_nonneg_right x1 y0
  omega

/-- Place k of a list, 0 behind its end. -/
def lim (l : List Int) (k : Nat) : Int := l.getD k 0
theorem val_take_succ (l : List Int) (k : Nat) : val (l.take (k + 1)) = val (l.take k) + pw k * lim l k := by
  unfold lim
  by_cases h : k < l.length
  · rw [List.take_succ_eq_append_getElem h, val_snoc, List.length_take, Nat.min_eq_left (by omega), List.getD_eq_getElem?_getD, List.getElem?_eq_getElem h]; rfl
  · rw [List.take_of_length_le (by omega), List.take_of_length_le (by omega), List.getD_eq_getElem?_getD, List.getElem?_eq_none (by omega)]; simp
theorem lim_bd {l : List Int} (h : InR l) (k : Nat) : 0 ≤ lim l k ∧ lim l k ≤ 999999999 := by
  unfold lim
  by_cases hk : k < l.length
  · rw [List.getD_eq_getElem?_getD, List.getElem?_eq_getElem hk]; exact h _ (List.getElem_mem hk)
  · rw [List.getD_eq_getElem?_getD, List.getElem?_eq_none (by omega)]; decide
end Go.Proofs.Ytjggdbakbhacjaa
