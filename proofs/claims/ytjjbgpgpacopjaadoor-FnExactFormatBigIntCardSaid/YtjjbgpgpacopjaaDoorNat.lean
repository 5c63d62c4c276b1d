/- Contracts of the model's natural numbers. -/
import Derived.Test.YtjjbgpgpacopjaaDoorMemI
import Derived.Test.YtjjbgpgpacopjaaDoorVal2
import Derived.Maps.AppendAt
namespace Go.Proofs.YtjjbgpgpacopjaaDoor
open Go.RowKit

/-- After some limbs: r the limbs, k what is left of n. -/
def OfAt (n k : Int) (r : List Int) : Prop := InR r ∧ val r + pw r.length * k = n ∧ 0 ≤ k ∧ (k = 0 → r.getLast? ≠ some 0) ∧ r.length ≤ 3
theorem OfAt.step {n k : Int} {r : List Int} (h : OfAt n k r) (h0 : 0 < k) (hn : n ≤ 9223372036854775807) : OfAt n (k / 1000000000) (r ++ [k % 1000000000]) := by
  obtain ⟨h1, h2, h3, _, h5⟩ := h
  refine ⟨h1.append (InR.one (by omega) (by omega)), ?_, by omega, fun hk => by simp; omega, ?_⟩
  · rw [val_snoc, List.length_append, List.length_singleton, pw_add, ← h2]
    have e : pw 1 = 1000000000 := rfl
    rw [e, Int.mul_assoc, Int.add_assoc, ← Int.mul_add]
    congr 2; omega
  · have h6 := val_nonneg h1
    have h7 : pw r.length * 1 ≤ pw r.length * k := Int.mul_le_mul_of_nonneg_left (by omega) (by have := pw_pos r.length; omega)
    have h8 : r.length ≤ 2 := by
      by_cases hl : r.length ≤ 2
      · exact hl
      · have h9 := pw_mono (show 3 ≤ r.length by omega)
        have h10 : pw 3 = 1000000000000000000000000000 := by decide
        omega
    simp; omega
theorem OfAt.done {n : Int} {r : List Int} (h : OfAt n 0 r) : NatOfIs n r := by
  obtain ⟨h1, h2, _, h4, _⟩ := h
  have h5 := val_nonneg h1
  refine ⟨⟨h1, h4 rfl⟩, ?_⟩
  rw [Int.mul_zero, Int.add_zero] at h2
  split <;> omega

theorem spec_in (n lo hi : Int) (b : Bool) (hb : (decide (lo ≤ n) && decide (n ≤ hi)) = b) (w : World) :
    Calls Tryd.prog 23 #[.int .i64 n, .int .i64 lo, .int .i64 hi] w fun e w' => e = .returned (.bool b) ∧ w = w' := by
  subst hb
  by_cases h1 : lo ≤ n
  · by_cases h2 : n ≤ hi
    all_goals
      go_enter Tryd.func23, Tryd.ntmps23
      go_wp2
      go_ret
      exact ⟨ret_bool (by simp [h1, h2]), rfl⟩
  · go_enter Tryd.func23, Tryd.ntmps23
    go_wp2
    go_ret
    exact ⟨ret_bool (by simp; omega), rfl⟩

/-- What NatOk ends in. -/
def OkEnd (xs : List Int) (e : Ending) : Prop := ∃ b, e = .returned (.bool b) ∧ NatOkIs xs b
theorem okNo {xs : List Int} (h : ¬ Ok xs) : OkEnd xs (.returned (.bool false)) := ⟨false, rfl, by unfold NatOkIs; simp [h]⟩
theorem okYes {xs : List Int} (h : Ok xs) : OkEnd xs (.returned (.bool true)) := ⟨true, rfl, by unfold NatOkIs; simp [h]⟩
set_option maxHeartbeats 800000 in
theorem spec_natOk' (A : Option Addr) (n c : Nat) (xs : List Int) (w : World) (h : InI w A n xs) :
    Calls Tryd.prog 16 #[.slice A n c] w fun e w' => OkEnd xs e ∧ w = w' := by
  obtain ⟨hlen, hn, hr, _⟩ := h
  have Hlen := Lib.hid hlen
  have Hr := Lib.hid hr
  clear hlen hr
  go_enter Tryd.func16, Tryd.ntmps16
  go_wp2_with fail
  go_loop [4, 7] (fun _ y => ∃ k : Nat, k ≤ n ∧ y = .int .i64 k ∧ Hid (InR (xs.take k))) (fun _ y => n - (intOf y).toNat)
  case atStart => exact ⟨0, Nat.zero_le _, rfl, by simpa using Lib.hid InR.nil⟩
  case round =>
    obtain ⟨k, hk, rfl, hin⟩ := hrel
    by_cases hlt : k < n
    · have hkx : k < xs.length := by rw [Hlen.out]; exact hlt
      obtain ⟨b, o, rfl, hb, hc⟩ := Hr.out.at_ (by simp; omega)
      obtain ⟨z, hz⟩ : ∃ z, z = xs[k] := ⟨_, rfl⟩
      have hcell : w.cell? ⟨b, o + k, none⟩ = some (.int .i64 z) := (hc k (by simpa using hkx)).trans (by simp [hz])
      have hi0 : (0 : Int) ≤ (k : Int) := by omega
      have hi1 : (k : Int) < (n : Int) := by omega
      have Hz := Lib.hid hz
      clear hc hz
      by_cases hok : 0 ≤ z ∧ z ≤ 999999999
      · have hnx : Hid (InR (xs.take (k + 1))) := hin.out.snoc_take hkx (by rw [← Hz.out]; exact hok.1) (by rw [← Hz.out]; exact hok.2)
        have hbool : Hid ((decide (0 ≤ z) && decide (z ≤ 999999999)) = true) := by unfold Hid; simp [hok.1, hok.2]
        clear hok
        go_wp2_with (go_at_call 23; refine (spec_in _ _ _ true hbool.out _).mono ?_; rintro e w' ⟨rfl, rfl⟩)
        go_round
        case rel => exact ⟨k + 1, by omega, by go_num, hnx⟩
        case measure => simp [intOf]; omega
      · have hfin := Lib.hid (okNo (xs := xs) (fun h => not_inR hkx (by rw [← Hz.out]; omega) h.1.1))
        have hbool : Hid ((decide (0 ≤ z) && decide (z ≤ 999999999)) = false) := by unfold Hid; rw [← Bool.decide_and, decide_eq_false hok]
        clear hok
        go_wp2_with (go_at_call 23; refine (spec_in _ _ _ false hbool.out _).mono ?_; rintro e w' ⟨rfl, rfl⟩)
        go_ret
        exact ⟨hfin.out, rfl⟩
    · obtain rfl : k = n := by omega
      have hall : Hid (InR xs) := by have := hin.out; rwa [List.take_of_length_le (by rw [Hlen.out]; exact Nat.le_refl _)] at this
      by_cases h60 : (k : Int) ≤ 60
      · by_cases h0 : k = 0
        · have hfin := Lib.hid (okYes (xs := xs) ⟨⟨hall.out, by rw [List.eq_nil_of_length_eq_zero (Hlen.out.trans h0)]; simp⟩, by rw [Hlen.out]; omega⟩)
          subst h0
          go_wp2_with fail
          go_ret
          exact ⟨hfin.out, rfl⟩
        · obtain ⟨m, rfl⟩ : ∃ m, k = m + 1 := ⟨k - 1, by omega⟩
          have hmx : m < xs.length := by rw [Hlen.out]; omega
          obtain ⟨b, o, rfl, hb, hc⟩ := Hr.out.at_ (by simp; omega)
          obtain ⟨z, hz⟩ : ∃ z, z = xs[m] := ⟨_, rfl⟩
          have hcell : w.cell? ⟨b, o + m, none⟩ = some (.int .i64 z) := (hc m (by simpa using hmx)).trans (by simp [hz])
          have hla := last_at Hlen.out
          rw [← hz] at hla
          have hne : (((m + 1 : Nat) : Int) == 0) = false := by simp; omega
          have hne2 : ((m : Int) + 1 == 0) = false := by simp; omega
          clear hc hz h0
          by_cases hz0 : z = 0
          · have hfin := Lib.hid (okNo (xs := xs) (fun h => h.1.2 (by rw [hla, hz0])))
            subst hz0
            clear hla
            go_wp2_with fail
            go_ret
            exact ⟨hfin.out, rfl⟩
          · have hfin := Lib.hid (okYes (xs := xs) ⟨⟨hall.out, by rw [hla]; simpa using hz0⟩, by rw [Hlen.out]; omega⟩)
            have hz1 : (z == 0) = false := by simpa using hz0
            have hz2 : (z != 0) = true := by simpa using hz0
            clear hla hz0
            go_wp2_with fail
            go_ret
            exact ⟨hfin.out, rfl⟩
      · have hfin := Lib.hid (okNo (xs := xs) (fun h => h60 (by have := h.2; rw [Hlen.out] at this; omega)))
        go_wp2_with fail
        go_ret
        exact ⟨hfin.out, rfl⟩
theorem spec_natOk (A : Option Addr) (n c : Nat) (xs : List Int) (w : World) (h : InI w A n xs) :
    Calls Tryd.prog 16 #[.slice A n c] w fun e w' => ∃ b, e = .returned (.bool b) ∧ NatOkIs xs b ∧ Below w.heap.size w w' :=
  (spec_natOk' A n c xs w h).mono fun _ _ ⟨⟨b, he, hi⟩, hw⟩ => ⟨b, he, hi, by subst hw; exact Below.refl _ _⟩

theorem own_take {w : World} {base : Nat} {E : TypeId} {A : Option Addr} {n c m : Nat} {xs : List Value} (h : w.ownsRow base E 1 (.slice A n c) n xs) (hm : m ≤ n) : w.ownsRow base E 1 (.slice A m c) m (xs.take m) := by
  obtain ⟨hl, h⟩ := h
  refine ⟨by simp; omega, ?_⟩
  rcases h with ⟨hv, rfl⟩ | ⟨g, cap, cur, hv, hb, hg, hn, hc, hs, ht⟩
  · obtain rfl : m = 0 := by omega
    exact .inl ⟨hv, rfl⟩
  · cases hv
    refine .inr ⟨g, c, cur, rfl, hb, hg, by omega, hc, hs, ?_⟩
    rw [← ht, List.take_take]; congr 1; omega

/-- What a cut list hands back: nothing, or the trimmed list, in the memory that it lay in. -/
def CapEnd (xs : List Int) (A : Option Addr) (c : Nat) (e : Ending) : Prop := ∃ m, Trimmed xs m ∧ ((60 < m ∧ e = .returned (.slice none 0 0)) ∨ (m ≤ 60 ∧ e = .returned (.slice A m c)))
/-- The cut list is owned, and is told by its worth. -/
theorem CapEnd.gives {w : World} {base : Nat} {A : Option Addr} {n c : Nat} {xs : List Int} {e : Ending} (h : CapEnd xs A c e) (hr : InR xs) (ho : w.ownsRow base 3 1 (.slice A n c) n (xs.map (.int .i64))) (hn : xs.length = n) :
    ∃ rs v, e = .returned v ∧ w.ownsRow base 3 1 v rs.length (rs.map (.int .i64)) ∧ rs.length ≤ 60 ∧ ∃ l, Canon l ∧ val l = val xs ∧ rs = cap l := by
  obtain ⟨m, ht, h⟩ := h
  obtain ⟨hc, hv⟩ := ht.canon hr
  have hlm : (xs.take m).length = m := by have := ht.1; simp; omega
  rcases h with ⟨hm, rfl⟩ | ⟨hm, rfl⟩
  · exact ⟨[], _, rfl, World.ownsRow_nil _ _ _ _, by simp, _, hc, hv, by unfold cap; rw [if_pos (by omega)]⟩
  · refine ⟨xs.take m, _, rfl, ?_, by omega, _, hc, hv, by unfold cap; rw [if_neg (by omega)]⟩
    rw [hlm]
    have := own_take ho (m := m) (by have := ht.1; omega)
    rwa [← List.map_take] at this

theorem InI.canon {w : World} {A : Option Addr} {n : Nat} {xs : List Int} (h : InI w A n xs) : xs.length = n ∧ n ≤ 1048576 ∧ Reads w A (xs.map (.int .i64)) := ⟨h.1, h.2.1, h.2.2.1⟩
/-- What a comparison ends in. -/
def CmpEnd (xs ys : List Int) (e : Ending) : Prop := e = .returned (.int .i64 (cmpV (val xs) (val ys)))

theorem InI.below {w w' : World} {A : Option Addr} {n : Nat} {xs : List Int} (h : InI w A n xs) (hb : Below w.heap.size w w') : InI w' A n xs := ⟨h.1, h.2.1, h.2.2.1.below hb, h.2.2.2⟩

/-- The sum after k places: the limbs, the carry. -/
def AddAt (xs ys : List Int) (k : Nat) (cy : Int) (r : List Int) : Prop := r.length = k ∧ InR r ∧ val r + pw k * cy = val (xs.take k) + val (ys.take k) ∧ 0 ≤ cy ∧ cy ≤ 1
theorem AddAt.step {xs ys r : List Int} {k : Nat} {cy : Int} (h : AddAt xs ys k cy r) (hx : InR xs) (hy : InR ys) :
    AddAt xs ys (k + 1) ((cy + lim xs k + lim ys k) / 1000000000) (r ++ [(cy + lim xs k + lim ys k) % 1000000000]) := by
  obtain ⟨h1, h2, h3, h4, h5⟩ := h
  have bx := lim_bd hx k
  have by_ := lim_bd hy k
  refine ⟨by simp [h1], h2.append (InR.one (by omega) (by omega)), ?_, by omega, by omega⟩
  rw [val_take_succ, val_take_succ, val_snoc, h1, pw]
  have e : pw k * ((cy + lim xs k + lim ys k) % 1000000000) + 1000000000 * pw k * ((cy + lim xs k + lim ys k) / 1000000000) = pw k * cy + pw k * lim xs k + pw k * lim ys k := by
    rw [Int.mul_comm 1000000000, Int.mul_assoc, ← Int.mul_add, ← Int.mul_add, ← Int.mul_add]
    congr 1; omega
  omega
theorem AddAt.done {xs ys r : List Int} {k : Nat} (h : AddAt xs ys k 0 r) (hx : xs.length ≤ k) (hy : ys.length ≤ k) : InR r ∧ val r = val xs + val ys := by
  obtain ⟨_, h2, h3, _, _⟩ := h
  rw [List.take_of_length_le hx, List.take_of_length_le hy] at h3
  exact ⟨h2, by rw [← h3]; simp⟩
/-- The sum's limbs, in memory of its own. -/
def SumEnd (t : Int) (B : Nat) (w w' : World) (e : Ending) : Prop := ∃ r A c, e = .returned (.slice A r.length c) ∧ InR r ∧ val r = t ∧ r.length ≤ B ∧ w'.ownsRow w.heap.size 3 1 (.slice A r.length c) r.length (r.map (.int .i64)) ∧ Below w.heap.size w w'


/-- The difference after k places: the limbs, what is still to be taken off. -/
def SubAt (xs ys : List Int) (k : Nat) (le : Int) (r : List Int) : Prop := r.length = k ∧ InR r ∧ val r = val (xs.take k) - val (ys.take k) + pw k * le ∧ 0 ≤ le ∧ le ≤ 1
theorem SubAt.step0 {xs ys r : List Int} {k : Nat} {le d : Int} (h : SubAt xs ys k le r) (hd : d = lim xs k - le - lim ys k) (hx : InR xs) (hy : InR ys) (h0 : 0 ≤ d) : SubAt xs ys (k + 1) 0 (r ++ [d]) := by
  obtain ⟨h1, h2, h3, h4, h5⟩ := h
  have bx := lim_bd hx k
  have by_ := lim_bd hy k
  refine ⟨by simp [h1], h2.append (InR.one h0 (by omega)), ?_, by omega, by omega⟩
  rw [val_take_succ, val_take_succ, val_snoc, h1, h3, hd, Int.mul_sub, Int.mul_sub]; omega
theorem SubAt.step1 {xs ys r : List Int} {k : Nat} {le d : Int} (h : SubAt xs ys k le r) (hd : d = lim xs k - le - lim ys k) (hx : InR xs) (hy : InR ys) (h0 : d < 0) : SubAt xs ys (k + 1) 1 (r ++ [d + 1000000000]) := by
  obtain ⟨h1, h2, h3, h4, h5⟩ := h
  have bx := lim_bd hx k
  have by_ := lim_bd hy k
  refine ⟨by simp [h1], h2.append (InR.one (by omega) (by omega)), ?_, by omega, by omega⟩
  rw [val_take_succ, val_take_succ, val_snoc, h1, h3, hd, Int.mul_add, Int.mul_sub, Int.mul_sub, pw, Int.mul_comm 1000000000]; omega
theorem SubAt.done {xs ys r : List Int} {k : Nat} {le : Int} (h : SubAt xs ys k le r) (hx : xs.length ≤ k) (hy : ys.length ≤ k) (hle : val ys ≤ val xs) : InR r ∧ val r = val xs - val ys := by
  obtain ⟨h1, h2, h3, h4, h5⟩ := h
  rw [List.take_of_length_le hx, List.take_of_length_le hy] at h3
  have h6 := val_lt h2
  rw [h1] at h6
  have h7 : le = 0 := by
    by_cases e : le = 0
    · exact e
    · obtain rfl : le = 1 := by omega
      rw [Int.mul_one] at h3; omega
  subst h7
  exact ⟨h2, by rw [h3]; simp⟩
theorem longer_ge {l m : List Int} (hl : Canon l) (hm : InR m) (h : val l ≤ val m) : l.length ≤ m.length := by
  by_cases e : l.length ≤ m.length
  · exact e
  · have := shorter_lt hm hl (by omega); omega
/-- A natural number's list, in memory of its own. -/
def CanEnd (t : Int) (B : Nat) (w w' : World) (e : Ending) : Prop := ∃ r A c, e = .returned (.slice A r.length c) ∧ Canon r ∧ val r = t ∧ r.length ≤ B ∧ w'.ownsRow w.heap.size 3 1 (.slice A r.length c) r.length (r.map (.int .i64)) ∧ Below w.heap.size w w'
end Go.Proofs.YtjjbgpgpacopjaaDoor
