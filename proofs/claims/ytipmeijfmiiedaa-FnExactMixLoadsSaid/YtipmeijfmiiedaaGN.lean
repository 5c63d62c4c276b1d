/- Contracts of the model's natural numbers. -/
import Derived.Test.YtipmeijfmiiedaaGA
import Derived.Maps.AppendAt
namespace Go.Proofs.Ytipmeijfmiiedaa
set_option maxRecDepth 100000
open Go.RowKit

/-- After some limbs: r the limbs, k what is left of n. -/
def OfAt (n k : Int) (r : List Int) : Prop := InR r ∧ val r + pw r.length * k = n ∧ 0 ≤ k ∧ (k = 0 → r.getLast? ≠ some 0) ∧ r.length ≤ 3
theorem OfAt.step {n k : Int} {r : List Int} (h : OfAt n k r) (h0 : 0 < k) (hn : n ≤ 9223372036854775807) : OfAt n (k / 1000000000) (r ++ [k % 1000000000]) := by
  obtain ⟨h1, h2, h3, _, h5⟩ := h
  refine ⟨h1.append (InR.one (by omega) (by omega)), ?_, by omega, fun hk => by simp; omega, ?_⟩
  · rw [val_snoc, List.length_append, List.length_singleton, pw_add, ← h2]
    have e : pw 1 = 1000000000 := rfl
    rw [e, Int.mul_assoc, Int.add_assoc, ← Int.mul_add]
    congr 2; omega
  · have h6 := val_nonneg h1
    have h7 : pw r.length * 1 ≤ pw r.length * k := Int.mul_le_mul_of_nonneg_left (by omega) (by have := pw_pos r.length; omega)
    have h8 : r.length ≤ 2 := by
      by_cases hl : r.length ≤ 2
      · exact hl
      · have h9 := pw_mono (show 3 ≤ r.length by omega)
        have h10 : pw 3 = 1000000000000000000000000000 := by decide
        omega
    simp; omega
theorem OfAt.done {n : Int} {r : List Int} (h : OfAt n 0 r) : NatOfIs n r := by
  obtain ⟨h1, h2, _, h4, _⟩ := h
  have h5 := val_nonneg h1
  refine ⟨⟨h1, h4 rfl⟩, ?_⟩
  rw [Int.mul_zero, Int.add_zero] at h2
  split <;> omega

theorem spec_in (n lo hi : Int) (b : Bool) (hb : (decide (lo ≤ n) && decide (n ≤ hi)) = b) (w : World) :
    Calls Try.prog 58 #[.int .i64 n, .int .i64 lo, .int .i64 hi] w fun e w' => e = .returned (.bool b) ∧ w = w' := by
  subst hb
  by_cases h1 : lo ≤ n
  · by_cases h2 : n ≤ hi
    all_goals
      go_enter Try.func58, Try.ntmps58
      go_wp2
      go_ret
      exact ⟨ret_bool (by simp [h1, h2]), rfl⟩
  · go_enter Try.func58, Try.ntmps58
    go_wp2
    go_ret
    exact ⟨ret_bool (by simp; omega), rfl⟩

/-- What NatOk ends in. -/
def OkEnd (xs : List Int) (e : Ending) : Prop := ∃ b, e = .returned (.bool b) ∧ NatOkIs xs b
theorem okNo {xs : List Int} (h : ¬ Ok xs) : OkEnd xs (.returned (.bool false)) := ⟨false, rfl, by unfold NatOkIs; simp [h]⟩
theorem okYes {xs : List Int} (h : Ok xs) : OkEnd xs (.returned (.bool true)) := ⟨true, rfl, by unfold NatOkIs; simp [h]⟩

theorem own_take {w : World} {base : Nat} {E : TypeId} {A : Option Addr} {n c m : Nat} {xs : List Value} (h : w.ownsRow base E 1 (.slice A n c) n xs) (hm : m ≤ n) : w.ownsRow base E 1 (.slice A m c) m (xs.take m) := by
  obtain ⟨hl, h⟩ := h
  refine ⟨by simp; omega, ?_⟩
  rcases h with ⟨hv, rfl⟩ | ⟨g, cap, cur, hv, hb, hg, hn, hc, hs, ht⟩
  · obtain rfl : m = 0 := by omega
    exact .inl ⟨hv, rfl⟩
  · cases hv
    refine .inr ⟨g, c, cur, rfl, hb, hg, by omega, hc, hs, ?_⟩
    rw [← ht, List.take_take]; congr 1; omega

/-- What a cut list hands back: nothing, or the trimmed list, in the memory that it lay in. -/
def CapEnd (xs : List Int) (A : Option Addr) (c : Nat) (e : Ending) : Prop := ∃ m, Trimmed xs m ∧ ((60 < m ∧ e = .returned (.slice none 0 0)) ∨ (m ≤ 60 ∧ e = .returned (.slice A m c)))
/-- The cut list is owned, and is told by its worth. -/
theorem CapEnd.gives {w : World} {base : Nat} {A : Option Addr} {n c : Nat} {xs : List Int} {e : Ending} (h : CapEnd xs A c e) (hr : InR xs) (ho : w.ownsRow base 3 1 (.slice A n c) n (xs.map (.int .i64))) (hn : xs.length = n) :
    ∃ rs v, e = .returned v ∧ w.ownsRow base 3 1 v rs.length (rs.map (.int .i64)) ∧ rs.length ≤ 60 ∧ ∃ l, Canon l ∧ val l = val xs ∧ rs = cap l := by
  obtain ⟨m, ht, h⟩ := h
  obtain ⟨hc, hv⟩ := ht.canon hr
  have hlm : (xs.take m).length = m := by have := ht.1; simp; omega
  rcases h with ⟨hm, rfl⟩ | ⟨hm, rfl⟩
  · exact ⟨[], _, rfl, World.ownsRow_nil _ _ _ _, by simp, _, hc, hv, by unfold cap; rw [if_pos (by omega)]⟩
  · refine ⟨xs.take m, _, rfl, ?_, by omega, _, hc, hv, by unfold cap; rw [if_neg (by omega)]⟩
    rw [hlm]
    have := own_take ho (m := m) (by have := ht.1; omega)
    rwa [← List.map_take] at this

theorem InI.canon {w : World} {A : Option Addr} {n : Nat} {xs : List Int} (h : InI w A n xs) : xs.length = n ∧ n ≤ 1048576 ∧ Reads w A (xs.map (.int .i64)) := ⟨h.1, h.2.1, h.2.2.1⟩
/-- What a comparison ends in. -/
def CmpEnd (xs ys : List Int) (e : Ending) : Prop := e = .returned (.int .i64 (cmpV (val xs) (val ys)))

theorem InI.below {w w' : World} {A : Option Addr} {n : Nat} {xs : List Int} (h : InI w A n xs) (hb : Below w.heap.size w w') : InI w' A n xs := ⟨h.1, h.2.1, h.2.2.1.below hb, h.2.2.2⟩

/-- The sum after k places: the limbs, the carry. -/
def AddAt (xs ys : List Int) (k : Nat) (cy : Int) (r : List Int) : Prop := r.length = k ∧ InR r ∧ val r + pw k * cy = val (xs.take k) + val (ys.take k) ∧ 0 ≤ cy ∧ cy ≤ 1
theorem AddAt.step {xs ys r : List Int} {k : Nat} {cy : Int} (h : AddAt xs ys k cy r) (hx : InR xs) (hy : InR ys) :
    AddAt xs ys (k + 1) ((cy + lim xs k + lim ys k) / 1000000000) (r ++ [(cy + lim xs k + lim ys k) % 1000000000]) := by
  obtain ⟨h1, h2, h3, h4, h5⟩ := h
  have bx := lim_bd hx k
  have by_ := lim_bd hy k
  refine ⟨by simp [h1], h2.append (InR.one (by omega) (by omega)), ?_, by omega, by omega⟩
  rw [val_take_succ, val_take_succ, val_snoc, h1, pw]
  have e : pw k * ((cy + lim xs k + lim ys k) % 1000000000) + 1000000000 * pw k * ((cy + lim xs k + lim ys k) / 1000000000) = pw k * cy + pw k * lim xs k + pw k * lim ys k := by
    rw [Int.mul_comm 1000000000, Int.mul_assoc, ← Int.mul_add, ← Int.mul_add, ← Int.mul_add]
    congr 1; omega
  omega
theorem AddAt.done {xs ys r : List Int} {k : Nat} (h : AddAt xs ys k 0 r) (hx : xs.length ≤ k) (hy : ys.length ≤ k) : InR r ∧ val r = val xs + val ys := by
  obtain ⟨_, h2, h3, _, _⟩ := h
  rw [List.take_of_length_le hx, List.take_of_length_le hy] at h3
  exact ⟨h2, by rw [← h3]; simp⟩
/-- The sum's limbs, in memory of its own. -/
def SumEnd (t : Int) (B : Nat) (w w' : World) (e : Ending) : Prop := ∃ r A c, e = .returned (.slice A r.length c) ∧ InR r ∧ val r = t ∧ r.length ≤ B ∧ w'.ownsRow w.heap.size 3 1 (.slice A r.length c) r.length (r.map (.int .i64)) ∧ Below w.heap.size w w'


/-- The difference after k places: the limbs, what is still to be taken off. -/
def SubAt (xs ys : List Int) (k : Nat) (le : Int) (r : List Int) : Prop := r.length = k ∧ InR r ∧ val r = val (xs.take k) - val (ys.take k) + pw k * le ∧ 0 ≤ le ∧ le ≤ 1
theorem SubAt.step0 {xs ys r : List Int} {k : Nat} {le d : Int} (h : SubAt xs ys k le r) (hd : d = lim xs k - le - lim ys k) (hx : InR xs) (hy : InR ys) (h0 : 0 ≤ d) : SubAt xs ys (k + 1) 0 (r ++ [d]) := by
  obtain ⟨h1, h2, h3, h4, h5⟩ := h
  have bx := lim_bd hx k
  have by_ := lim_bd hy k
  refine ⟨by simp [h1], h2.append (InR.one h0 (by omega)), ?_, by omega, by omega⟩
  rw [val_take_succ, val_take_succ, val_snoc, h1, h3, hd, Int.mul_sub, Int.mul_sub]; omega
theorem SubAt.step1 {xs ys r : List Int} {k : Nat} {le d : Int} (h : SubAt xs ys k le r) (hd : d = lim xs k - le - lim ys k) (hx : InR xs) (hy : InR ys) (h0 : d < 0) : SubAt xs ys (k + 1) 1 (r ++ [d + 1000000000]) := by
  obtain ⟨h1, h2, h3, h4, h5⟩ := h
  have bx := lim_bd hx k
  have by_ := lim_bd hy k
  refine ⟨by simp [h1], h2.append (InR.one (by omega) (by omega)), ?_, by omega, by omega⟩
  rw [val_take_succ, val_take_succ, val_snoc, h1, h3, hd, Int.mul_add, Int.mul_sub, Int.mul_sub, pw, Int.mul_comm 1000000000]; omega
theorem SubAt.done {xs ys r : List Int} {k : Nat} {le : Int} (h : SubAt xs ys k le r) (hx : xs.length ≤ k) (hy : ys.length ≤ k) (hle : val ys ≤ val xs) : InR r ∧ val r = val xs - val ys := by
  obtain ⟨h1, h2, h3, h4, h5⟩ := h
  rw [List.take_of_length_le hx, List.take_of_length_le hy] at h3
  have h6 := val_lt h2
  rw [h1] at h6
  have h7 : le = 0 := by
    by_cases e : le = 0
    · exact e
    · obtain rfl : le = 1 := by omega
      rw [Int.mul_one] at h3; omega
  subst h7
  exact ⟨h2, by rw [h3]; simp⟩
theorem longer_ge {l m : List Int} (hl : Canon l) (hm : InR m) (h : val l ≤ val m) : l.length ≤ m.length := by
  by_cases e : l.length ≤ m.length
  · exact e
  · have := shorter_lt hm hl (by omega); omega
/-- A natural number's list, in memory of its own. -/
def CanEnd (t : Int) (B : Nat) (w w' : World) (e : Ending) : Prop := ∃ r A c, e = .returned (.slice A r.length c) ∧ Canon r ∧ val r = t ∧ r.length ≤ B ∧ w'.ownsRow w.heap.size 3 1 (.slice A r.length c) r.length (r.map (.int .i64)) ∧ Below w.heap.size w w'
end Go.Proofs.Ytipmeijfmiiedaa
namespace Go.Proofs.Ytipmeijfmiiedaa
set_option maxRecDepth 100000
open Go.RowKit

theorem own_lower {w : World} {base base' : Nat} {E : TypeId} {size n : Nat} {v : Value} {xs : List Value} (h : w.ownsRow base E size v n xs) (hb : base' ≤ base) : w.ownsRow base' E size v n xs := by
  refine ⟨h.1, ?_⟩
  rcases h.2 with h | ⟨g, cap, cur, h1, h2, h3⟩
  · exact .inl h
  · exact .inr ⟨g, cap, cur, h1, by omega, h3⟩

end Go.Proofs.Ytipmeijfmiiedaa
namespace Go.Proofs.Ytipmeijfmiiedaa
set_option maxRecDepth 100000
open Go.RowKit

/-- The product after i whole rows: the limbs. -/
def MulAt (xs ys : List Int) (L i : Nat) (os : List Int) : Prop := os.length = L ∧ InR os ∧ val os = val (xs.take i) * val ys ∧ ZeroFrom os (i + ys.length)
/-- .. and j places into the next row, x its limb, cy the carry. -/
def RowAt (xs ys : List Int) (L i : Nat) (x : Int) (j : Nat) (cy : Int) (os : List Int) : Prop :=
  os.length = L ∧ InR os ∧ val os + pw (i + j) * cy = val (xs.take i) * val ys + pw i * (x * val (ys.take j)) ∧ ZeroFrom os (i + ys.length) ∧ 0 ≤ cy ∧ cy ≤ 999999999
theorem MulAt.row {xs ys os : List Int} {L i : Nat} (x : Int) (h : MulAt xs ys L i os) : RowAt xs ys L i x 0 0 os :=
  ⟨h.1, h.2.1, by rw [h.2.2.1]; simp [val], h.2.2.2, by omega, by omega⟩
theorem RowAt.step {xs ys os : List Int} {L i j : Nat} {x cy y o : Int} (h : RowAt xs ys L i x j cy os) (hj : j < ys.length) (hy : y = ys[j]) (hij : i + j < os.length) (ho : o = os[i + j]) (hS : 0 ≤ o + x * y + cy) (hS1 : o + x * y + cy ≤ 999999999999999999) :
    RowAt xs ys L i x (j + 1) ((o + x * y + cy) / 1000000000) (os.set (i + j) ((o + x * y + cy) % 1000000000)) := by
  obtain ⟨h1, h2, h3, h4, h5, h6⟩ := h
  refine ⟨by simpa using h1, h2.set _ (by omega) (by omega), ?_, h4.set (by omega) _, by omega, by omega⟩
  rw [val_set _ _ _ hij, val_take_succ, ← ho, ← Nat.add_assoc, pw]
  have hl : lim ys j = y := by unfold lim; rw [List.getD_eq_getElem?_getD, List.getElem?_eq_getElem hj, hy]; rfl
  rw [hl]
  have e : pw (i + j) * ((o + x * y + cy) % 1000000000 - o) + 1000000000 * pw (i + j) * ((o + x * y + cy) / 1000000000) = pw (i + j) * (x * y) + pw (i + j) * cy := by
    rw [Int.mul_comm 1000000000, Int.mul_assoc, ← Int.mul_add, ← Int.mul_add]
    congr 1; omega
  have e2 : pw i * (x * (val (ys.take j) + pw j * y)) = pw i * (x * val (ys.take j)) + pw (i + j) * (x * y) := by
    rw [Int.mul_add, Int.mul_add, pw_add, Int.mul_left_comm x (pw j) y, Int.mul_assoc]
  rw [e2]; omega
theorem RowAt.next {xs ys os : List Int} {L i : Nat} {x cy : Int} (h : RowAt xs ys L i x ys.length cy os) (hi : i < xs.length) (hx : x = xs[i]) (hl : i + ys.length < os.length) : MulAt xs ys L (i + 1) (os.set (i + ys.length) cy) := by
  obtain ⟨h1, h2, h3, h4, h5, h6⟩ := h
  refine ⟨by simpa using h1, h2.set _ h5 h6, ?_, by have := h4.set_last cy; rwa [Nat.add_right_comm] at this⟩
  have hlx : lim xs i = x := by unfold lim; rw [List.getD_eq_getElem?_getD, List.getElem?_eq_getElem hi, hx]; rfl
  rw [val_set _ _ _ hl, h4 _ hl (Nat.le_refl _), val_take_succ, hlx, Int.sub_zero, h3, List.take_of_length_le (Nat.le_refl _), Int.add_mul, Int.mul_assoc]

end Go.Proofs.Ytipmeijfmiiedaa
namespace Go.Proofs.Ytipmeijfmiiedaa
set_option maxRecDepth 100000
open Go.RowKit

/-- What NatToInt returns. -/
def NatToIntIs (a : List Int) (v : Int) (b : Bool) : Prop := (b = true ∧ Ok a ∧ val a ≤ 9223372036854775807 ∧ v = val a) ∨ (b = false ∧ v = 0 ∧ ¬ (Ok a ∧ val a ≤ 9223372036854775807))
theorem natToInt_unique {a : List Int} {v v' : Int} {b b' : Bool} (h : NatToIntIs a v b) (h' : NatToIntIs a v' b') : v = v' ∧ b = b' := by
  rcases h with ⟨rfl, h1, h2, rfl⟩ | ⟨rfl, rfl, h1⟩ <;> rcases h' with ⟨rfl, h3, h4, rfl⟩ | ⟨rfl, rfl, h3⟩
  · exact ⟨rfl, rfl⟩
  · exact absurd ⟨h1, h2⟩ h3
  · exact absurd ⟨h3, h4⟩ h1
  · exact ⟨rfl, rfl⟩
/-- What NatToInt ends in. -/
def ToIntEnd (xs : List Int) (e : Ending) : Prop := ∃ v b, e = .returned (.tuple #[.int .i64 v, .bool b]) ∧ NatToIntIs xs v b
def maxI : List Int := [854775807, 223372036, 9]
theorem maxI_canon : Canon maxI := ⟨by intro d hd; simp [maxI] at hd; omega, by decide⟩
theorem maxI_val : val maxI = 9223372036854775807 := by decide

/-- What a division by one limb ends in. -/
def SmallEnd (t d : Int) (B : Nat) (w w' : World) (e : Ending) : Prop := ∃ r A c rest, e = .returned (.tuple #[.slice A r.length c, .int .i64 rest]) ∧ Canon r ∧ val r * d + rest = t ∧ 0 ≤ rest ∧ rest < d ∧ r.length ≤ B ∧ w'.ownsRow w.heap.size 3 1 (.slice A r.length c) r.length (r.map (.int .i64)) ∧ Below w.heap.size w w'
end Go.Proofs.Ytipmeijfmiiedaa
namespace Go.Proofs.Ytipmeijfmiiedaa
set_option maxRecDepth 100000
open Go.RowKit

def DigEnd (R D : Int) (e : Ending) : Prop := ∃ q, e = .returned (.int .i64 q) ∧ q * D ≤ R ∧ R < (q + 1) * D ∧ 0 ≤ q ∧ q ≤ 999999999

theorem dig_start {R D P x t : Int} (hP : 0 < P) (e1 : x * P ≤ R) (e2 : R < (x + 1) * P) (e3 : t * P ≤ D) (e4 : D ≤ (t + 1) * P) (x0 : 0 ≤ x) (t1 : 1 ≤ t) (hlt : R < 1000000000 * D) (hD : 0 < D) :
    Dig R D (x / (t + 1)) (if x / t < 999999999 then x / t else 999999999) := by
  have g1 := (guess (q := 0) hP e1 e2 e3 e4 x0 t1).1
  have g2 := lt_guess hP e2 e3 x0 t1
  have g3 := (guess (q := 0) hP e1 e2 e3 e4 x0 t1).2.2
  have up : ∀ hi, R < (hi + 1) * D → x / (t + 1) ≤ hi := fun hi h => by
    have : x / (t + 1) < hi + 1 := Int.lt_of_mul_lt_mul_right (a := D) (by omega) (by omega)
    omega
  split
  · exact ⟨g1, g2, g3, up _ g2, by omega⟩
  · exact ⟨g1, by omega, g3, up _ (by omega), by omega⟩

end Go.Proofs.Ytipmeijfmiiedaa
