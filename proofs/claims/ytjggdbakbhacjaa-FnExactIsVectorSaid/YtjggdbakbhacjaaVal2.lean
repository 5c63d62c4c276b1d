/- Plain facts on long division of lists of limbs, greatest common divisors; no program is named here. -/
import Derived.Test.YtjggdbakbhacjaaVal
namespace Go.Proofs.Ytjggdbakbhacjaa
set_option maxRecDepth 100000

theorem val_drop_at {l : List Int} {k : Nat} (h : k < l.length) : val (l.drop k) = l[k] + 1000000000 * val (l.drop (k + 1)) := by
  rw [List.drop_eq_getElem_cons h]; rfl
theorem val_drop_le : ∀ {l : List Int}, InR l → ∀ k, val (l.drop k) ≤ val l
  | [], _, k => by simp
  | d :: r, h, 0 => Int.le_refl _
  | d :: r, h, k + 1 => by
    have h1 := h.cons
    have h2 := val_drop_le h1.2 k
    have h3 := val_nonneg h1.2
    have h4 : val (d :: r) = d + 1000000000 * val r := rfl
    rw [List.drop_succ_cons]; omega
theorem val_split (l : List Int) (k : Nat) (h : k ≤ l.length) : val l = val (l.take k) + pw k * val (l.drop k) := by
  conv => lhs; rw [← List.take_append_drop k l]
  rw [val_append, List.length_take, Nat.min_eq_left h]
theorem take_bd {l : List Int} (h : InR l) (k : Nat) (hk : k ≤ l.length) : 0 ≤ val (l.take k) ∧ val (l.take k) < pw k := by
  have h1 := val_lt (h.take k)
  rw [List.length_take, Nat.min_eq_left hk] at h1
  exact ⟨val_nonneg (h.take k), h1⟩
theorem short_of {l : List Int} {k : Nat} (h : Canon l) (hv : val l < pw k) : l.length ≤ k := by
  by_cases e : l = []
  · subst e; simp
  · have h1 := canon_lower h e
    by_cases hk : l.length ≤ k
    · exact hk
    · have := pw_mono (show k ≤ l.length - 1 by omega); omega
/-- The quotient lies between the two guesses from the top. -/
theorem guess {R D P x t q : Int} (hP : 0 < P) (hR0 : x * P ≤ R) (hR1 : R < (x + 1) * P) (hD0 : t * P ≤ D) (hD1 : D ≤ (t + 1) * P) (x0 : 0 ≤ x) (t1 : 1 ≤ t) :
    (x / (t + 1)) * D ≤ R ∧ (R < (q + 1) * D → q * D ≤ R → 0 ≤ q → q ≤ x / t) ∧ 0 ≤ x / (t + 1) := by
  have hlo0 : 0 ≤ x / (t + 1) := Int.ediv_nonneg x0 (by omega)
  refine ⟨?_, fun _ hq hq0 => ?_, hlo0⟩
  · have h1 : (x / (t + 1)) * D ≤ (x / (t + 1)) * ((t + 1) * P) := Int.mul_le_mul_of_nonneg_left hD1 hlo0
    have h2 : (x / (t + 1)) * (t + 1) ≤ x := Int.ediv_mul_le x (by omega)
    have h3 : (x / (t + 1)) * (t + 1) * P ≤ x * P := Int.mul_le_mul_of_nonneg_right h2 (by omega)
    rw [Int.mul_assoc] at h3
    omega
  · have h1 : q * (t * P) ≤ q * D := Int.mul_le_mul_of_nonneg_left hD0 hq0
    have h2 : q * t < x + 1 := by
      refine Int.lt_of_mul_lt_mul_right (a := P) ?_ (by omega)
      rw [Int.mul_assoc]; omega
    exact (Int.le_ediv_iff_mul_le (by omega)).2 (by omega)
theorem lt_guess {R D P x t : Int} (hP : 0 < P) (hR1 : R < (x + 1) * P) (hD0 : t * P ≤ D) (x0 : 0 ≤ x) (t1 : 1 ≤ t) : R < (x / t + 1) * D := by
  have h0 : 0 ≤ x / t := Int.ediv_nonneg x0 (by omega)
  have h1 : (x / t + 1) * (t * P) ≤ (x / t + 1) * D := Int.mul_le_mul_of_nonneg_left hD0 (by omega)
  have h2 : x + 1 ≤ (x / t + 1) * t := by
    have := Int.lt_ediv_add_one_mul_self x (show 0 < t by omega); omega
  have h3 : (x + 1) * P ≤ (x / t + 1) * t * P := Int.mul_le_mul_of_nonneg_right h2 (by omega)
  rw [Int.mul_assoc] at h3
  omega
/-- The search: the digit lies from lo to hi. -/
def Dig (R D lo hi : Int) : Prop := lo * D ≤ R ∧ R < (hi + 1) * D ∧ 0 ≤ lo ∧ lo ≤ hi ∧ hi ≤ 999999999
theorem Dig.up {R D lo hi q : Int} (h : Dig R D lo hi) (h1 : lo < q) (h2 : q ≤ hi) (hq : q * D ≤ R) : Dig R D q hi := ⟨hq, h.2.1, by have := h.2.2.1; omega, h2, h.2.2.2.2⟩
theorem Dig.down {R D lo hi q : Int} (h : Dig R D lo hi) (h1 : lo < q) (h2 : q ≤ hi) (hq : R < q * D) : Dig R D lo (q - 1) := ⟨h.1, by rw [Int.sub_add_cancel]; exact hq, h.2.2.1, by omega, by have := h.2.2.2.2; omega⟩
/-- Division by one limb, down to place k: the limbs of the quotient, what is left. -/
def SmallAt (xs : List Int) (d : Int) (k : Nat) (rest : Int) (os : List Int) : Prop := os.length = xs.length ∧ InR os ∧ val (os.drop k) * d + rest = val (xs.drop k) ∧ 0 ≤ rest ∧ rest < d
theorem SmallAt.step {xs os : List Int} {d rest x : Int} {i : Nat} (h : SmallAt xs d (i + 1) rest os) (hi : i < xs.length) (hx : x = xs[i]) (x0 : 0 ≤ x) (x1 : x ≤ 999999999) (d0 : 1 ≤ d) (d1 : d ≤ 999999999) :
    SmallAt xs d i ((rest * 1000000000 + x) % d) (os.set i ((rest * 1000000000 + x) / d)) ∧ 0 ≤ (rest * 1000000000 + x) % d ∧ (rest * 1000000000 + x) % d < d := by
  obtain ⟨h1, h2, h3, h4, h5⟩ := h
  have hm0 := Int.emod_nonneg (rest * 1000000000 + x) (show d ≠ 0 by omega)
  have hm1 := Int.emod_lt_of_pos (rest * 1000000000 + x) (show 0 < d by omega)
  have hq0 : 0 ≤ (rest * 1000000000 + x) / d := Int.ediv_nonneg (by omega) (by omega)
  have hq1 : (rest * 1000000000 + x) / d ≤ 999999999 := by
    have : (rest * 1000000000 + x) / d < 1000000000 := Int.ediv_lt_of_lt_mul (by omega) (by
      have : rest + 1 ≤ d := by omega
      omega)
    omega
  have hio : i < os.length := by rw [h1]; exact hi
  refine ⟨⟨by simpa using h1, h2.set i hq0 hq1, ?_, hm0, hm1⟩, hm0, hm1⟩
  rw [val_drop_at (by simpa using hio), List.getElem_set_self, List.drop_set_of_lt (by omega), val_drop_at hi, ← hx]
  have e := Int.mul_ediv_add_emod (rest * 1000000000 + x) d
  have e2 : ((rest * 1000000000 + x) / d + 1000000000 * val (os.drop (i + 1))) * d = d * ((rest * 1000000000 + x) / d) + 1000000000 * (val (os.drop (i + 1)) * d) := by
    rw [Int.add_mul, Int.mul_assoc, Int.mul_comm ((rest * 1000000000 + x) / d) d]
  rw [e2]; omega
theorem SmallAt.start (xs : List Int) {d : Int} (d0 : 1 ≤ d) : SmallAt xs d xs.length 0 (List.replicate xs.length 0) :=
  ⟨by simp, fun e he => by rw [(List.mem_replicate.1 he).2]; decide, by rw [List.drop_eq_nil_of_le (by simp), List.drop_eq_nil_of_le (by simp)]; simp [val], by omega, by omega⟩
theorem map_set_int (os : List Int) (k : Nat) (d : Int) : (os.map (Value.int .i64)).set k (.int .i64 d) = (os.set k d).map (.int .i64) := by rw [List.map_set]
theorem zeros_val (n : Nat) : val (List.replicate n 0) = 0 := val_zero (fun _ hd => (List.mem_replicate.1 hd).2)
theorem zeros_inR (n : Nat) : InR (List.replicate n 0) := fun d hd => by rw [(List.mem_replicate.1 hd).2]; decide
theorem zeros_from (n m : Nat) : ZeroFrom (List.replicate n 0) m := fun j hj _ => by simp
theorem zeroFrom_of_lt {l : List Int} {m : Nat} (h : InR l) (hv : val l < pw m) : ZeroFrom l m := by
  intro j hj hle
  have h0 := h _ (List.getElem_mem hj)
  have h1 := val_split l j (by omega)
  have h2 := val_nonneg (h.take j)
  have h3 := val_drop_at hj
  have h4 := val_nonneg (h.drop (j + 1))
  have h5 := pw_mono hle
  by_cases e : l[j] = 0
  · exact e
  · have h6 : pw j * 1 ≤ pw j * val (l.drop j) := Int.mul_le_mul_of_nonneg_left (by omega) (by have := pw_pos j; omega)
    omega

/-- A list times one limb, after i places: the limbs, the carry. -/
def TimesAt (xs : List Int) (s : Int) (i : Nat) (cy : Int) (os : List Int) : Prop := os.length = xs.length + 1 ∧ InR os ∧ val os + pw i * cy = val (xs.take i) * s ∧ ZeroFrom os i ∧ 0 ≤ cy ∧ cy ≤ 999999999
theorem TimesAt.start (xs : List Int) (s : Int) : TimesAt xs s 0 0 (List.replicate (xs.length + 1) 0) :=
  ⟨by simp, zeros_inR _, by rw [zeros_val]; simp [val], zeros_from _ _, by omega, by omega⟩
theorem TimesAt.step {xs os : List Int} {s cy x : Int} {i : Nat} (h : TimesAt xs s i cy os) (hi : i < xs.length) (hx : x = xs[i]) (hS : 0 ≤ cy + x * s) (hS1 : cy + x * s ≤ 999999999999999999) :
    TimesAt xs s (i + 1) ((cy + x * s) / 1000000000) (os.set i ((cy + x * s) % 1000000000)) := by
  obtain ⟨h1, h2, h3, h4, h5, h6⟩ := h
  have hio : i < os.length := by omega
  refine ⟨by simpa using h1, h2.set _ (by omega) (by omega), ?_, h4.set_last _, by omega, by omega⟩
  have hl : lim xs i = x := by unfold lim; rw [List.getD_eq_getElem?_getD, List.getElem?_eq_getElem hi, hx]; rfl
  rw [val_set _ _ _ hio, h4 _ hio (Nat.le_refl _), val_take_succ, hl, pw]
  have e := Int.mul_ediv_add_emod (cy + x * s) 1000000000
  grind
theorem TimesAt.last {xs os : List Int} {s cy : Int} (h : TimesAt xs s xs.length cy os) : InR (os.set xs.length cy) ∧ val (os.set xs.length cy) = val xs * s ∧ (os.set xs.length cy).length = xs.length + 1 := by
  obtain ⟨h1, h2, h3, h4, h5, h6⟩ := h
  rw [List.take_of_length_le (Nat.le_refl _)] at h3
  refine ⟨h2.set _ h5 h6, ?_, by simpa using h1⟩
  rw [val_set _ _ _ (by omega), h4 _ (by omega) (Nat.le_refl _), Int.sub_zero]
  omega

/-- A sum in place after i places: W the worth before, os the limbs now. -/
def PlusAt (W : Int) (ds : List Int) (n i : Nat) (cy : Int) (os : List Int) : Prop := InR (os.take n) ∧ val os + pw i * cy = W + val (ds.take i) ∧ 0 ≤ cy ∧ cy ≤ 1
theorem InR.take_set {l : List Int} {n : Nat} (h : InR (l.take n)) (k : Nat) {d : Int} (h0 : 0 ≤ d) (h1 : d ≤ 999999999) : InR ((l.set k d).take n) := by
  rw [List.take_set]; exact h.set k h0 h1
theorem inR_take_at {l : List Int} {n i : Nat} (h : InR (l.take n)) (hi : i < n) (hl : i < l.length) : 0 ≤ l[i] ∧ l[i] ≤ 999999999 := by
  refine h _ (List.mem_iff_getElem.2 ⟨i, by simp; omega, by simp⟩)
theorem PlusAt.step {W : Int} {ds os : List Int} {n i : Nat} {cy o d : Int} (h : PlusAt W ds n i cy os) (hi : i < n) (hio : i < os.length) (ho : o = os[i]) (hid : i < ds.length) (hd : d = ds[i]) (hdr : InR ds) :
    PlusAt W ds n (i + 1) ((cy + (o + d)) / 1000000000) (os.set i ((cy + (o + d)) % 1000000000)) ∧ 0 ≤ o ∧ o ≤ 999999999 ∧ 0 ≤ d ∧ d ≤ 999999999 := by
  obtain ⟨h1, h2, h3, h4⟩ := h
  have bo := inR_take_at h1 hi hio
  have bd := hdr _ (List.getElem_mem hid)
  rw [← ho] at bo
  rw [← hd] at bd
  refine ⟨⟨h1.take_set _ (by omega) (by omega), ?_, by omega, by omega⟩, bo.1, bo.2, bd.1, bd.2⟩
  have hl : lim ds i = d := by unfold lim; rw [List.getD_eq_getElem?_getD, List.getElem?_eq_getElem hid, hd]; rfl
  rw [val_set _ _ _ hio, val_take_succ, hl, pw, ← ho]
  have e := Int.mul_ediv_add_emod (cy + (o + d)) 1000000000
  grind

/-- A window less a multiple of the divisor after i places: W the worth before, os the limbs now. -/
def LessAt (W g : Int) (ds : List Int) (i : Nat) (cy : Int) (os : List Int) : Prop := InR os ∧ val os + pw i * cy = W - g * val (ds.take i) ∧ -1000000000 ≤ cy ∧ cy ≤ 0
theorem LessAt.step {W g : Int} {ds os : List Int} {i : Nat} {cy o d : Int} (h : LessAt W g ds i cy os) (hio : i < os.length) (ho : o = os[i]) (hid : i < ds.length) (hd : d = ds[i]) (hp0 : 0 ≤ g * d) (hp1 : g * d ≤ 999999998000000001) (o0 : 0 ≤ o) (o1 : o ≤ 999999999) :
    LessAt W g ds (i + 1) ((cy + (o - g * d)) / 1000000000) (os.set i ((cy + (o - g * d)) % 1000000000)) := by
  obtain ⟨h1, h2, h3, h4⟩ := h
  refine ⟨h1.set _ (by omega) (by omega), ?_, by omega, by omega⟩
  have hl : lim ds i = d := by unfold lim; rw [List.getD_eq_getElem?_getD, List.getElem?_eq_getElem hid, hd]; rfl
  rw [val_set _ _ _ hio, val_take_succ, hl, pw, ← ho]
  have e := Int.mul_ediv_add_emod (cy + (o - g * d)) 1000000000
  grind

/-- A window whose top limb t may be below nothing: W what it is worth in all. -/
def TopAt (n : Nat) (W t : Int) (os : List Int) : Prop := InR (os.take n) ∧ ZeroFrom os (n + 1) ∧ val os = W ∧ val os = val (os.take n) + pw n * t ∧ n < os.length ∧ os.getD n 0 = t
theorem top_at {n : Nat} {os : List Int} (h1 : InR (os.take n)) (h2 : ZeroFrom os (n + 1)) (h3 : n < os.length) : TopAt n (val os) (os.getD n 0) os := by
  refine ⟨h1, h2, rfl, ?_, h3, rfl⟩
  rw [val_split os n (by omega), val_drop_at h3]
  have h4 : val (os.drop (n + 1)) = 0 := val_zero (fun d hd => by
    obtain ⟨j, hj, rfl⟩ := List.mem_iff_getElem.1 hd
    rw [List.getElem_drop]; exact h2 _ _ (by omega))
  rw [h4, List.getD_eq_getElem?_getD, List.getElem?_eq_getElem h3]; simp
theorem TopAt.neg {n : Nat} {W t : Int} {os : List Int} (h : TopAt n W t os) (ht : t < 0) : W < 0 := by
  obtain ⟨h1, h2, h3, h4, h5, _⟩ := h
  have h6 := take_bd (l := os.take n) h1 n (by simp; omega)
  rw [List.take_take, Nat.min_self] at h6
  have h7 : pw n * t ≤ pw n * (-1) := Int.mul_le_mul_of_nonneg_left (by omega) (by have := pw_pos n; omega)
  omega
theorem TopAt.nonneg {n : Nat} {W t : Int} {os : List Int} (h : TopAt n W t os) (ht : 0 ≤ t) : 0 ≤ W := by
  obtain ⟨h1, h2, h3, h4, h5, _⟩ := h
  have h6 := val_nonneg h1
  have h7 := Int.mul_nonneg (show 0 ≤ pw n by have := pw_pos n; omega) ht
  omega
theorem TopAt.zero {n : Nat} {W t : Int} {os : List Int} (h : TopAt n W t os) (ht : 0 ≤ t) (hW : W < pw n) : t = 0 ∧ InR os := by
  obtain ⟨h1, h2, h3, h4, h5, h8⟩ := h
  have h6 := val_nonneg h1
  have ht0 : t = 0 := by
    by_cases e : t = 0
    · exact e
    · have h7 : pw n * 1 ≤ pw n * t := Int.mul_le_mul_of_nonneg_left (by omega) (by have := pw_pos n; omega)
      omega
  refine ⟨ht0, fun d hd => ?_⟩
  obtain ⟨j, hj, rfl⟩ := List.mem_iff_getElem.1 hd
  by_cases e : j < n
  · exact inR_take_at h1 e hj
  · by_cases e2 : j = n
    · subst e2
      rw [List.getD_eq_getElem?_getD, List.getElem?_eq_getElem hj] at h8
      have : os[j] = t := h8
      omega
    · have := h2 j hj (by omega); omega

/-- Long division down to place k: q the limbs of the quotient, r what is left, t the whole, D the divisor. -/
def LongAt (t D : Int) (nr m k : Nat) (q r : List Int) : Prop := q.length = m ∧ InR q ∧ r.length = nr ∧ InR r ∧ val (r.drop k) < D ∧ val (q.drop k) * D * pw k + val r = t
theorem LongAt.window {t D : Int} {nr m j : Nat} {q r : List Int} (h : LongAt t D nr m (j + 1) q r) (hj : j < nr) : val (r.drop j) < 1000000000 * D ∧ 0 ≤ val (r.drop j) := by
  obtain ⟨_, _, h3, h4, h5, _⟩ := h
  have h6 := h4 _ (List.getElem_mem (show j < r.length by omega))
  rw [val_drop_at (by omega)]
  have h7 := val_nonneg (h4.drop (j + 1))
  omega
theorem LongAt.step {t D : Int} {nr m j : Nat} {q r X : List Int} {d : Int} (h : LongAt t D nr m (j + 1) q r) (hj : j < nr) (hm : j < m) (hX : X.length = (r.drop j).length) (hXr : InR X) (hv : val X = val (r.drop j) - d * D) (hlt : val X < D) (d0 : 0 ≤ d) (d1 : d ≤ 999999999) :
    LongAt t D nr m j (q.set j d) (r.take j ++ X) := by
  obtain ⟨h1, h2, h3, h4, h5, h6⟩ := h
  have hl : (r.take j).length = j := by simp; omega
  have hd : (r.take j ++ X).drop j = X := by
    rw [List.drop_append_of_le_length (by omega), List.drop_eq_nil_of_le (by omega), List.nil_append]
  refine ⟨by simpa using h1, h2.set j d0 d1, by rw [List.length_append, hl, hX]; simp; omega, (h4.take j).append hXr, by rw [hd]; exact hlt, ?_⟩
  rw [val_drop_at (by simp; omega), List.getElem_set_self, List.drop_set_of_lt (by omega), val_append, hl, hv]
  have e := val_split r j (by omega)
  rw [pw] at h6
  grind
/-- What a division gives. -/
def DivIs (a b : Int) (q r : List Int) : Prop := Canon q ∧ Canon r ∧ a = val q * b + val r ∧ val r < b
theorem div_unique {a b q r q' r' : Int} (h : a = q * b + r) (h0 : 0 ≤ r) (h1 : r < b) (h' : a = q' * b + r') (h0' : 0 ≤ r') (h1' : r' < b) : q = q' ∧ r = r' := by
  have e1 : a / b = q := by
    rw [h, Int.add_comm, Int.add_mul_ediv_right _ _ (by omega), Int.ediv_eq_zero_of_lt h0 h1]; omega
  have e2 : a / b = q' := by
    rw [h', Int.add_comm, Int.add_mul_ediv_right _ _ (by omega), Int.ediv_eq_zero_of_lt h0' h1']; omega
  have e3 : q = q' := by omega
  subst e3
  exact ⟨rfl, by omega⟩
theorem divIs_unique {a b : Int} {q r q' r' : List Int} (h : DivIs a b q r) (h' : DivIs a b q' r') : q = q' ∧ r = r' := by
  obtain ⟨h1, h2, h3, h4⟩ := h
  obtain ⟨k1, k2, k3, k4⟩ := h'
  obtain ⟨e1, e2⟩ := div_unique h3 (val_nonneg h2.1) h4 k3 (val_nonneg k2.1) k4
  exact ⟨canon_unique h1 k1 e1, canon_unique h2 k2 e2⟩
theorem LongAt.done {A s B : Int} {nr m nb : Nat} {q r : List Int} (h : LongAt (A * s) (B * s) nr m 0 q r) (hD : B * s ≤ pw nb) : ZeroFrom r nb ∧ val r = s * (A - val q * B) ∧ val r < B * s := by
  obtain ⟨h1, h2, h3, h4, h5, h6⟩ := h
  rw [List.drop_zero] at h5 h6
  refine ⟨zeroFrom_of_lt h4 (by omega), ?_, h5⟩
  have e : pw 0 = 1 := rfl
  rw [e] at h6
  grind
/-- The quotient of what is left by the scale. -/
theorem scaled_back {R s X B v rest : Int} (hR : R = s * X) (hs : 1 ≤ s) (h : v * s + rest = R) (r0 : 0 ≤ rest) (r1 : rest < s) (hlt : R < B * s) : v = X ∧ v < B := by
  obtain ⟨e, _⟩ := div_unique (a := R) (b := s) (q := v) (r := rest) (q' := X) (r' := 0) (by omega) r0 r1 (by rw [hR, Int.mul_comm]; omega) (by omega) (by omega)
  subst e
  refine ⟨rfl, ?_⟩
  refine Int.lt_of_mul_lt_mul_right (a := s) ?_ (by omega)
  omega

/-- What NatDiv returns. -/
def NatDivIs (a b q r : List Int) : Prop := (Ok a ∧ Ok b ∧ 0 < val b ∧ DivIs (val a) (val b) q r) ∨ (¬ (Ok a ∧ Ok b ∧ 0 < val b) ∧ q = [] ∧ r = [])
theorem natDiv_unique {a b q r q' r' : List Int} (h : NatDivIs a b q r) (h' : NatDivIs a b q' r') : q = q' ∧ r = r' := by
  rcases h with ⟨h1, h2, h3, h4⟩ | ⟨h1, rfl, rfl⟩ <;> rcases h' with ⟨k1, k2, k3, k4⟩ | ⟨k1, rfl, rfl⟩
  · exact divIs_unique h4 k4
  · exact absurd ⟨h1, h2, h3⟩ k1
  · exact absurd ⟨k1, k2, k3⟩ h1
  · exact ⟨rfl, rfl⟩
theorem canon_pos {l : List Int} (h : Canon l) (hl : 0 < l.length) : 0 < val l := by
  have h1 := canon_lower h (by intro e; subst e; simp at hl)
  have := pw_pos (l.length - 1); omega

/-- The greatest common divisor's list. -/
def GcdIs (a b : Int) (r : List Int) : Prop := Canon r ∧ val r = (Int.gcd a b : Int)
def NatGcdIs (a b r : List Int) : Prop := (Ok a ∧ Ok b ∧ GcdIs (val a) (val b) r) ∨ (¬ (Ok a ∧ Ok b) ∧ r = [])
theorem natGcd_unique {a b r r' : List Int} (h : NatGcdIs a b r) (h' : NatGcdIs a b r') : r = r' := by
  rcases h with ⟨h1, h2, h3⟩ | ⟨h1, rfl⟩ <;> rcases h' with ⟨k1, k2, k3⟩ | ⟨k1, rfl⟩
  · exact canon_unique h3.1 k3.1 (h3.2.trans k3.2.symm)
  · exact absurd ⟨h1, h2⟩ k1
  · exact absurd ⟨k1, k2⟩ h1
  · rfl
theorem gcd_step {a b q r : Int} (h : a = q * b + r) : Int.gcd a b = Int.gcd b r := by
  rw [h, Int.gcd_comm, Int.add_comm, Int.gcd_add_mul_right_right]
theorem gcd_mod (a b : Int) : Int.gcd a b = Int.gcd b (a % b) := gcd_step (q := a / b) (by rw [Int.mul_comm]; exact (Int.mul_ediv_add_emod a b).symm)
end Go.Proofs.Ytjggdbakbhacjaa
