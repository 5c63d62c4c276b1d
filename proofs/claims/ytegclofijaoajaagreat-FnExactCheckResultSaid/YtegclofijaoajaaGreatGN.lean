/- Contracts of the model's natural numbers. -/
import Derived.Test.YtegclofijaoajaaGreatGA
import Derived.Maps.AppendAt
namespace Go.Proofs.YtegclofijaoajaaGreat
set_option maxRecDepth 100000
open Go.RowKit

/-- After some limbs: r the limbs, k what is left of n. -/
def OfAt (n k : Int) (r : List Int) : Prop := InR r ∧ val r + pw r.length * k = n ∧ 0 ≤ k ∧ (k = 0 → r.getLast? ≠ some 0) ∧ r.length ≤ 3
theorem OfAt.step {n k : Int} {r : List Int} (h : OfAt n k r) (h0 : 0 < k) (hn : n ≤ 9223372036854775807) : OfAt n (k / 1000000000) (r ++ [k % 1000000000]) := by
  obtain ⟨h1, h2, h3, _, h5⟩ := h
  refine ⟨h1.append (InR.one (by omega) (by omega)), ?_, by omega, fun hk => by simp; omega, ?_⟩
  · rw [val_snoc, List.length_append, List.length_singleton, pw_add, ← h2]
    have e : pw 1 = 1000000000 := rfl
    rw [e, Int.mul_assoc, Int.add_assoc, ← Int.mul_add]
    congr 2; omega
  · have h6 := val_nonneg h1
    have h7 : pw r.length * 1 ≤ pw r.length * k := Int.mul_le_mul_of_nonneg_left (by omega) (by have := pw_pos r.length; omega)
    have h8 : r.length ≤ 2 := by
      by_cases hl : r.length ≤ 2
      · exact hl
      · have h9 := pw_mono (show 3 ≤ r.length by omega)
        have h10 : pw 3 = 1000000000000000000000000000 := by decide
        omega
    simp; omega
theorem OfAt.done {n : Int} {r : List Int} (h : OfAt n 0 r) : NatOfIs n r := by
  obtain ⟨h1, h2, _, h4, _⟩ := h
  have h5 := val_nonneg h1
  refine ⟨⟨h1, h4 rfl⟩, ?_⟩
  rw [Int.mul_zero, Int.add_zero] at h2
  split <;> omega

set_option maxHeartbeats 400000 in
theorem spec_natOf (n : Int) (w : World) (hn : -9223372036854775808 ≤ n ∧ n ≤ 9223372036854775807) :
    Calls Tryz.prog 224 #[.int .i64 n] w fun e w' => ∃ rs v, e = .returned v ∧ NatOfIs n rs ∧ ResI w w' v rs ∧ Below w.heap.size w w' := by
  obtain ⟨i0, hi, hz0, hz1, hz2⟩ := info_parts Tryz.infoI
  by_cases hneg : n < 0
  · have hfin : Hid (NatOfIs n []) := ⟨canon_nil, by rw [if_pos (by omega)]; rfl⟩
    have hnp : ¬ 0 < n := by omega
    go_enter Tryz.func224, Tryz.ntmps224
    go_wp2_with fail
    refine wp_loop_rounds 1 ?_
    rw [rounds_succ]
    go_wp2_with fail
    go_ret
    exact ⟨[], _, rfl, hfin.out, ⟨by simp, World.ownsRow_lit w #[] 0 (Nat.le_refl _) (by simp) (by simp)⟩, (Below.refl _ _).alloc (Nat.le_refl _) _⟩
  go_enter Tryz.func224, Tryz.ntmps224
  go_wp2_with fail
  go_loopw [0, 3] (fun x y wr => ∃ (k : Int) (r : List Int), 0 ≤ k ∧ k ≤ n ∧ x = .int .i64 k ∧ Hid (OfAt n k r) ∧ Hid (wr.ownsRow w.heap.size 3 1 y r.length (r.map (.int .i64))) ∧ Hid (Below w.heap.size w wr)) (fun x _ _ => (intOf x).toNat)
  case atStart => exact ⟨n, [], by omega, Int.le_refl _, rfl, ⟨InR.nil, by simp [val, pw], by omega, fun _ => by simp, by simp⟩, World.ownsRow_lit w #[] 0 (Nat.le_refl _) (by simp) (by simp), (Below.refl _ _).alloc (Nat.le_refl _) _⟩
  case round =>
    obtain ⟨k, r, hk0, hkn, rfl, hat, ho, hb⟩ := hrel
    have hl3 := hat.out.2.2.2.2
    by_cases hlt : 0 < k
    · have hnx := Lib.hid (hat.out.step hlt hn.2)
      obtain ⟨N, hN⟩ : ∃ N, N = r.length := ⟨_, rfl⟩
      rw [← hN] at ho hl3
      have HN := Lib.hid hN
      clear hN
      go_wp2_with (at_builtin; refine wpList_append_own _ rfl _ _ 30 rfl w.heap.size 3 i0 (.int .i64 0) 1 8 Tryz.underlying30 hi hz0 hz1 hz2 rfl (by decide) _ _ _ rfl (ho.out.alloc _) ⟨wr.heap.size, 0, none⟩ 1 1 [.int .i64 (k % 1000000000)] rfl rfl ?c1 ?c2 ?c3 ?c4 ?c5 ?_)
      case c1 => exact cell_one_new _ _ _
      case c2 => simp [Value.oneCell']
      case c3 => unfold maxLen; omega
      case c4 => omega
      case c5 => have := hb.out.size; simp; omega
      intro v' w1 hown hg _
      have hb1 := Lib.hid ((hb.out.alloc hb.out.size _).grown hg (by have := hb.out.size; simp; omega) (fun j hj => (ho.out.lt j hj).1))
      have ho1 : Hid (w1.ownsRow w.heap.size 3 1 v' (r ++ [k % 1000000000]).length ((r ++ [k % 1000000000]).map (.int .i64))) := by
        unfold Hid; rw [List.length_append, ← HN.out]; simpa using hown
      clear hown hg
      go_wp2_with fail
      go_roundw
      case rel => exact ⟨k / 1000000000, r ++ [k % 1000000000], by omega, by omega, rfl, hnx, ho1, hb1⟩
      case measure => simp [intOf]; omega
    · obtain rfl : k = 0 := by omega
      have hfin := Lib.hid hat.out.done
      go_wp2_with fail
      go_ret
      exact ⟨r, _, rfl, hfin.out, ⟨by omega, ho.out⟩, hb.out⟩

theorem spec_in (n lo hi : Int) (b : Bool) (hb : (decide (lo ≤ n) && decide (n ≤ hi)) = b) (w : World) :
    Calls Tryz.prog 181 #[.int .i64 n, .int .i64 lo, .int .i64 hi] w fun e w' => e = .returned (.bool b) ∧ w = w' := by
  subst hb
  by_cases h1 : lo ≤ n
  · by_cases h2 : n ≤ hi
    all_goals
      go_enter Tryz.func181, Tryz.ntmps181
      go_wp2
      go_ret
      exact ⟨ret_bool (by simp [h1, h2]), rfl⟩
  · go_enter Tryz.func181, Tryz.ntmps181
    go_wp2
    go_ret
    exact ⟨ret_bool (by simp; omega), rfl⟩

/-- What NatOk ends in. -/
def OkEnd (xs : List Int) (e : Ending) : Prop := ∃ b, e = .returned (.bool b) ∧ NatOkIs xs b
theorem okNo {xs : List Int} (h : ¬ Ok xs) : OkEnd xs (.returned (.bool false)) := ⟨false, rfl, by unfold NatOkIs; simp [h]⟩
theorem okYes {xs : List Int} (h : Ok xs) : OkEnd xs (.returned (.bool true)) := ⟨true, rfl, by unfold NatOkIs; simp [h]⟩
set_option maxHeartbeats 800000 in
theorem spec_natOk' (A : Option Addr) (n c : Nat) (xs : List Int) (w : World) (h : InI w A n xs) :
    Calls Tryz.prog 242 #[.slice A n c] w fun e w' => OkEnd xs e ∧ w = w' := by
  obtain ⟨hlen, hn, hr, _⟩ := h
  have Hlen := Lib.hid hlen
  have Hr := Lib.hid hr
  clear hlen hr
  go_enter Tryz.func242, Tryz.ntmps242
  go_wp2_with fail
  go_loop [4, 7] (fun _ y => ∃ k : Nat, k ≤ n ∧ y = .int .i64 k ∧ Hid (InR (xs.take k))) (fun _ y => n - (intOf y).toNat)
  case atStart => exact ⟨0, Nat.zero_le _, rfl, by simpa using Lib.hid InR.nil⟩
  case round =>
    obtain ⟨k, hk, rfl, hin⟩ := hrel
    by_cases hlt : k < n
    · have hkx : k < xs.length := by rw [Hlen.out]; exact hlt
      obtain ⟨b, o, rfl, hb, hc⟩ := Hr.out.at_ (by simp; omega)
      obtain ⟨z, hz⟩ : ∃ z, z = xs[k] := ⟨_, rfl⟩
      have hcell : w.cell? ⟨b, o + k, none⟩ = some (.int .i64 z) := (hc k (by simpa using hkx)).trans (by simp [hz])
      have hi0 : (0 : Int) ≤ (k : Int) := by omega
      have hi1 : (k : Int) < (n : Int) := by omega
      have Hz := Lib.hid hz
      clear hc hz
      by_cases hok : 0 ≤ z ∧ z ≤ 999999999
      · have hnx : Hid (InR (xs.take (k + 1))) := hin.out.snoc_take hkx (by rw [← Hz.out]; exact hok.1) (by rw [← Hz.out]; exact hok.2)
        have hbool : Hid ((decide (0 ≤ z) && decide (z ≤ 999999999)) = true) := by unfold Hid; simp [hok.1, hok.2]
        clear hok
        go_wp2_with (go_at_call 181; refine (spec_in _ _ _ true hbool.out _).mono ?_; rintro e w' ⟨rfl, rfl⟩)
        go_round
        case rel => exact ⟨k + 1, by omega, by go_num, hnx⟩
        case measure => simp [intOf]; omega
      · have hfin := Lib.hid (okNo (xs := xs) (fun h => not_inR hkx (by rw [← Hz.out]; omega) h.1.1))
        have hbool : Hid ((decide (0 ≤ z) && decide (z ≤ 999999999)) = false) := by unfold Hid; rw [← Bool.decide_and, decide_eq_false hok]
        clear hok
        go_wp2_with (go_at_call 181; refine (spec_in _ _ _ false hbool.out _).mono ?_; rintro e w' ⟨rfl, rfl⟩)
        go_ret
        exact ⟨hfin.out, rfl⟩
    · obtain rfl : k = n := by omega
      have hall : Hid (InR xs) := by have := hin.out; rwa [List.take_of_length_le (by rw [Hlen.out]; exact Nat.le_refl _)] at this
      by_cases h60 : (k : Int) ≤ 60
      · by_cases h0 : k = 0
        · have hfin := Lib.hid (okYes (xs := xs) ⟨⟨hall.out, by rw [List.eq_nil_of_length_eq_zero (Hlen.out.trans h0)]; simp⟩, by rw [Hlen.out]; omega⟩)
          subst h0
          go_wp2_with fail
          go_ret
          exact ⟨hfin.out, rfl⟩
        · obtain ⟨m, rfl⟩ : ∃ m, k = m + 1 := ⟨k - 1, by omega⟩
          have hmx : m < xs.length := by rw [Hlen.out]; omega
          obtain ⟨b, o, rfl, hb, hc⟩ := Hr.out.at_ (by simp; omega)
          obtain ⟨z, hz⟩ : ∃ z, z = xs[m] := ⟨_, rfl⟩
          have hcell : w.cell? ⟨b, o + m, none⟩ = some (.int .i64 z) := (hc m (by simpa using hmx)).trans (by simp [hz])
          have hla := last_at Hlen.out
          rw [← hz] at hla
          have hne : (((m + 1 : Nat) : Int) == 0) = false := by simp; omega
          have hne2 : ((m : Int) + 1 == 0) = false := by simp; omega
          clear hc hz h0
          by_cases hz0 : z = 0
          · have hfin := Lib.hid (okNo (xs := xs) (fun h => h.1.2 (by rw [hla, hz0])))
            subst hz0
            clear hla
            go_wp2_with fail
            go_ret
            exact ⟨hfin.out, rfl⟩
          · have hfin := Lib.hid (okYes (xs := xs) ⟨⟨hall.out, by rw [hla]; simpa using hz0⟩, by rw [Hlen.out]; omega⟩)
            have hz1 : (z == 0) = false := by simpa using hz0
            have hz2 : (z != 0) = true := by simpa using hz0
            clear hla hz0
            go_wp2_with fail
            go_ret
            exact ⟨hfin.out, rfl⟩
      · have hfin := Lib.hid (okNo (xs := xs) (fun h => h60 (by have := h.2; rw [Hlen.out] at this; omega)))
        go_wp2_with fail
        go_ret
        exact ⟨hfin.out, rfl⟩
theorem own_take {w : World} {base : Nat} {E : TypeId} {A : Option Addr} {n c m : Nat} {xs : List Value} (h : w.ownsRow base E 1 (.slice A n c) n xs) (hm : m ≤ n) : w.ownsRow base E 1 (.slice A m c) m (xs.take m) := by
  obtain ⟨hl, h⟩ := h
  refine ⟨by simp; omega, ?_⟩
  rcases h with ⟨hv, rfl⟩ | ⟨g, cap, cur, hv, hb, hg, hn, hc, hs, ht⟩
  · obtain rfl : m = 0 := by omega
    exact .inl ⟨hv, rfl⟩
  · cases hv
    refine .inr ⟨g, c, cur, rfl, hb, hg, by omega, hc, hs, ?_⟩
    rw [← ht, List.take_take]; congr 1; omega
set_option maxHeartbeats 800000 in
theorem spec_trim (base : Nat) (A : Option Addr) (n c : Nat) (xs : List Int) (w : World) (hn : xs.length = n) (hb : n ≤ 4194304) (ho : w.ownsRow base 3 1 (.slice A n c) n (xs.map (.int .i64))) :
    Calls Tryz.prog 219 #[.slice A n c] w fun e w' => (∃ m, e = .returned (.slice A m c) ∧ Trimmed xs m) ∧ w = w' := by
  have hcap := (own_cap ho).1
  have Hn := Lib.hid hn
  have Ho := Lib.hid ho
  by_cases h0 : n = 0
  · have hfin : Hid (Trimmed xs 0) := ⟨Nat.zero_le _, fun j hj _ => absurd hj (by rw [hn]; omega), by simp⟩
    have hA : (A = none ∧ c = 0) ∨ ∃ g, A = some ⟨g, 0, none⟩ := by
      rcases ho.2 with ⟨hv, _⟩ | ⟨g, _, _, hv, _⟩
      · cases hv; exact .inl ⟨rfl, rfl⟩
      · cases hv; exact .inr ⟨g, rfl⟩
    clear hn ho
    subst h0
    rcases hA with ⟨rfl, rfl⟩ | ⟨g, rfl⟩
    all_goals
      go_enter Tryz.func219, Tryz.ntmps219
      go_wp2_with fail
      refine wp_loop_rounds 1 ?_
      rw [rounds_succ]
      go_wp2_with fail
    · go_ret
      exact ⟨⟨0, rfl, hfin.out⟩, rfl⟩
    · go_ret
      exact ⟨⟨0, rfl, hfin.out⟩, rfl⟩
  obtain ⟨g, rfl, _, hgs⟩ := own_at ho (by omega)
  clear hn ho
  go_enter Tryz.func219, Tryz.ntmps219
  go_wp2_with fail
  go_loop [3] (fun x => ∃ m : Nat, m ≤ n ∧ x = .int .i64 m ∧ Hid (ZeroFrom xs m)) (fun x => (intOf x).toNat)
  case atStart => exact ⟨n, Nat.le_refl _, rfl, fun j hj hle => absurd hj (by rw [Hn.out]; omega)⟩
  case round =>
    obtain ⟨m, hm, rfl, hz⟩ := hrel
    by_cases hm0 : m = 0
    · have hfin : Hid (Trimmed xs 0) := ⟨Nat.zero_le _, by rw [← hm0]; exact hz.out, by simp⟩
      subst hm0
      go_wp2_with fail
      go_ret
      exact ⟨⟨0, rfl, hfin.out⟩, rfl⟩
    · obtain ⟨k, rfl⟩ : ∃ k, m = k + 1 := ⟨m - 1, by omega⟩
      have hkx : k < xs.length := by rw [Hn.out]; omega
      obtain ⟨z, hzk⟩ : ∃ z, z = xs[k] := ⟨_, rfl⟩
      have hcell : w.cell? ⟨g, k, none⟩ = some (.int .i64 z) := by
        rw [Ho.out.cellAt k (by omega)]; simp [hzk, hkx]
      by_cases hz0 : z = 0
      · have hnx : Hid (ZeroFrom xs k) := zeroFrom_pred hz.out hkx (by rw [← hzk]; exact hz0)
        subst hz0
        clear hzk hm0
        go_wp2_with fail
        go_round
        case rel => exact ⟨k, by omega, by go_num, hnx⟩
        case measure => simp [intOf]
      · have hfin : Hid (Trimmed xs (k + 1)) := ⟨by omega, hz.out, by rw [take_last hkx, ← hzk]; simpa using hz0⟩
        have hz1 : (z == 0) = false := by simpa using hz0
        clear hzk hm0 hz0
        go_wp2_with fail
        go_ret
        exact ⟨⟨k + 1, rfl, hfin.out⟩, rfl⟩

/-- What a cut list hands back: nothing, or the trimmed list, in the memory that it lay in. -/
def CapEnd (xs : List Int) (A : Option Addr) (c : Nat) (e : Ending) : Prop := ∃ m, Trimmed xs m ∧ ((60 < m ∧ e = .returned (.slice none 0 0)) ∨ (m ≤ 60 ∧ e = .returned (.slice A m c)))
/-- The cut list is owned, and is told by its worth. -/
theorem CapEnd.gives {w : World} {base : Nat} {A : Option Addr} {n c : Nat} {xs : List Int} {e : Ending} (h : CapEnd xs A c e) (hr : InR xs) (ho : w.ownsRow base 3 1 (.slice A n c) n (xs.map (.int .i64))) (hn : xs.length = n) :
    ∃ rs v, e = .returned v ∧ w.ownsRow base 3 1 v rs.length (rs.map (.int .i64)) ∧ rs.length ≤ 60 ∧ ∃ l, Canon l ∧ val l = val xs ∧ rs = cap l := by
  obtain ⟨m, ht, h⟩ := h
  obtain ⟨hc, hv⟩ := ht.canon hr
  have hlm : (xs.take m).length = m := by have := ht.1; simp; omega
  rcases h with ⟨hm, rfl⟩ | ⟨hm, rfl⟩
  · exact ⟨[], _, rfl, World.ownsRow_nil _ _ _ _, by simp, _, hc, hv, by unfold cap; rw [if_pos (by omega)]⟩
  · refine ⟨xs.take m, _, rfl, ?_, by omega, _, hc, hv, by unfold cap; rw [if_neg (by omega)]⟩
    rw [hlm]
    have := own_take ho (m := m) (by have := ht.1; omega)
    rwa [← List.map_take] at this

theorem InI.canon {w : World} {A : Option Addr} {n : Nat} {xs : List Int} (h : InI w A n xs) : xs.length = n ∧ n ≤ 1048576 ∧ Reads w A (xs.map (.int .i64)) := ⟨h.1, h.2.1, h.2.2.1⟩
/-- What a comparison ends in. -/
def CmpEnd (xs ys : List Int) (e : Ending) : Prop := e = .returned (.int .i64 (cmpV (val xs) (val ys)))
set_option maxHeartbeats 800000 in
theorem spec_cmp (A1 : Option Addr) (n1 c1 : Nat) (xs : List Int) (A2 : Option Addr) (n2 c2 : Nat) (ys : List Int) (w : World) (h1 : xs.length = n1 ∧ n1 ≤ 1048576 ∧ Reads w A1 (xs.map (.int .i64))) (h2 : ys.length = n2 ∧ n2 ≤ 1048576 ∧ Reads w A2 (ys.map (.int .i64))) (k1 : Canon xs) (k2 : Canon ys) :
    Calls Tryz.prog 217 #[.slice A1 n1 c1, .slice A2 n2 c2] w fun e w' => CmpEnd xs ys e ∧ Below w.heap.size w w' := by
  obtain ⟨hn1, hb1, hr1⟩ := h1
  obtain ⟨hn2, hb2, hr2⟩ := h2
  have Hn1 := Lib.hid hn1
  have Hn2 := Lib.hid hn2
  have Hr1 := Lib.hid hr1
  have Hr2 := Lib.hid hr2
  have K1 := Lib.hid k1
  have K2 := Lib.hid k2
  by_cases hlt : (n1 : Int) < n2
  · have hfin : Hid (CmpEnd xs ys (.returned (.int .i64 (-1)))) := by unfold Hid CmpEnd; rw [cmpV_lt (shorter_lt k1.1 k2 (by omega))]
    have hne : ((n1 : Int) == n2) = false := by simp; omega
    clear hn1 hn2 hr1 hr2 k1 k2
    go_enter Tryz.func217, Tryz.ntmps217
    go_wp2_with fail
    go_ret
    exact ⟨hfin.out, Below.refl _ _⟩
  by_cases hgt : (n2 : Int) < n1
  · have hfin : Hid (CmpEnd xs ys (.returned (.int .i64 1))) := by unfold Hid CmpEnd; rw [cmpV_gt (shorter_lt k2.1 k1 (by omega))]
    have hne : ((n1 : Int) == n2) = false := by simp; omega
    clear hn1 hn2 hr1 hr2 k1 k2
    go_enter Tryz.func217, Tryz.ntmps217
    go_wp2_with fail
    go_ret
    exact ⟨hfin.out, Below.refl _ _⟩
  obtain rfl : n1 = n2 := by omega
  clear hn1 hn2 hr1 hr2 k1 k2 hlt hgt
  go_enter Tryz.func217, Tryz.ntmps217
  go_wp2_with fail
  go_loopw [5] (fun x wr => ∃ k j : Nat, wr = w.drewN j ∧ k ≤ n1 ∧ x = .int .i64 ((k : Int) - 1) ∧ Hid (xs.drop k = ys.drop k)) (fun x _ => (intOf x + 1).toNat)
  case atStart => exact ⟨n1, 0, rfl, Nat.le_refl _, rfl, by unfold Hid; rw [List.drop_eq_nil_of_le (by rw [Hn1.out]; exact Nat.le_refl _), List.drop_eq_nil_of_le (by rw [Hn2.out]; exact Nat.le_refl _)]⟩
  case round =>
    obtain ⟨k, j, rfl, hk, rfl, hd⟩ := hrel
    by_cases h0 : k = 0
    · have hfin : Hid (CmpEnd xs ys (.returned (.int .i64 0))) := by
        have := hd.out
        rw [h0, List.drop_zero, List.drop_zero] at this
        unfold Hid CmpEnd; rw [this, cmpV_eq rfl]
      subst h0
      go_wp2_with fail
      go_ret
      exact ⟨hfin.out, below_drewN (Below.refl _ _) _⟩
    · obtain ⟨i, rfl⟩ : ∃ i, k = i + 1 := ⟨k - 1, by omega⟩
      have hix : i < xs.length := by rw [Hn1.out]; omega
      have hiy : i < ys.length := by rw [Hn2.out]; omega
      obtain ⟨b1, o1, rfl, hbs1, hc1⟩ := Hr1.out.at_ (by simp; omega)
      obtain ⟨b2, o2, rfl, hbs2, hc2⟩ := Hr2.out.at_ (by simp; omega)
      obtain ⟨x, hx⟩ : ∃ x, x = xs[i] := ⟨_, rfl⟩
      obtain ⟨y, hy⟩ : ∃ y, y = ys[i] := ⟨_, rfl⟩
      have g1 : w.cell? ⟨b1, o1 + i, none⟩ = some (.int .i64 x) := (hc1 i (by simpa using hix)).trans (by simp [hx])
      have g2 : w.cell? ⟨b2, o2 + i, none⟩ = some (.int .i64 y) := (hc2 i (by simpa using hiy)).trans (by simp [hy])
      have hsi : (((i + 1 : Nat) : Int) - 1) = (i : Int) := by omega
      rw [hsi]
      have hi0 : (0 : Int) ≤ (i : Int) := by omega
      have hi1 : (i : Int) < (n1 : Int) := by omega
      by_cases hxy : x < y
      · have hfin : Hid (CmpEnd xs ys (.returned (.int .i64 (-1)))) := by unfold Hid CmpEnd; rw [cmpV_lt (top_lt K1.out.1 K2.out.1 hix hiy hd.out (by rw [← hx, ← hy]; exact hxy))]
        clear hc1 hc2 hx hy h0 hsi
        go_wp2_with fail
        go_quiet (fail)
        go_wp2_with fail
        go_ret
        exact ⟨hfin.out, below_drewN (below_drewN (Below.refl _ _) _) _⟩
      · by_cases hyx : y < x
        · have hfin : Hid (CmpEnd xs ys (.returned (.int .i64 1))) := by unfold Hid CmpEnd; rw [cmpV_gt (top_lt K2.out.1 K1.out.1 hiy hix hd.out.symm (by rw [← hx, ← hy]; exact hyx))]
          clear hc1 hc2 hx hy h0 hsi
          go_wp2_with fail
          go_quiet (fail)
          go_wp2_with fail
          go_quiet (fail)
          go_wp2_with fail
          go_ret
          exact ⟨hfin.out, below_drewN (below_drewN (below_drewN (Below.refl _ _) _) _) _⟩
        · have hnx : Hid (xs.drop i = ys.drop i) := drop_step hix hiy hd.out (by rw [← hx, ← hy]; omega)
          clear hc1 hc2 hx hy h0 hsi
          go_wp2_with fail
          go_quiet (fail)
          go_wp2_with fail
          go_quiet (fail)
          go_wp2_with fail
          go_roundw
          case rel => exact ⟨i, _, rfl, by omega, rfl, hnx⟩
          case measure => simp [intOf]

theorem InI.below {w w' : World} {A : Option Addr} {n : Nat} {xs : List Int} (h : InI w A n xs) (hb : Below w.heap.size w w') : InI w' A n xs := ⟨h.1, h.2.1, h.2.2.1.below hb, h.2.2.2⟩

/-- The sum after k places: the limbs, the carry. -/
def AddAt (xs ys : List Int) (k : Nat) (cy : Int) (r : List Int) : Prop := r.length = k ∧ InR r ∧ val r + pw k * cy = val (xs.take k) + val (ys.take k) ∧ 0 ≤ cy ∧ cy ≤ 1
theorem AddAt.step {xs ys r : List Int} {k : Nat} {cy : Int} (h : AddAt xs ys k cy r) (hx : InR xs) (hy : InR ys) :
    AddAt xs ys (k + 1) ((cy + lim xs k + lim ys k) / 1000000000) (r ++ [(cy + lim xs k + lim ys k) % 1000000000]) := by
  obtain ⟨h1, h2, h3, h4, h5⟩ := h
  have bx := lim_bd hx k
  have by_ := lim_bd hy k
  refine ⟨by simp [h1], h2.append (InR.one (by omega) (by omega)), ?_, by omega, by omega⟩
  rw [val_take_succ, val_take_succ, val_snoc, h1, pw]
  have e : pw k * ((cy + lim xs k + lim ys k) % 1000000000) + 1000000000 * pw k * ((cy + lim xs k + lim ys k) / 1000000000) = pw k * cy + pw k * lim xs k + pw k * lim ys k := by
    rw [Int.mul_comm 1000000000, Int.mul_assoc, ← Int.mul_add, ← Int.mul_add, ← Int.mul_add]
    congr 1; omega
  omega
theorem AddAt.done {xs ys r : List Int} {k : Nat} (h : AddAt xs ys k 0 r) (hx : xs.length ≤ k) (hy : ys.length ≤ k) : InR r ∧ val r = val xs + val ys := by
  obtain ⟨_, h2, h3, _, _⟩ := h
  rw [List.take_of_length_le hx, List.take_of_length_le hy] at h3
  exact ⟨h2, by rw [← h3]; simp⟩
/-- The sum's limbs, in memory of its own. -/
def SumEnd (t : Int) (B : Nat) (w w' : World) (e : Ending) : Prop := ∃ r A c, e = .returned (.slice A r.length c) ∧ InR r ∧ val r = t ∧ r.length ≤ B ∧ w'.ownsRow w.heap.size 3 1 (.slice A r.length c) r.length (r.map (.int .i64)) ∧ Below w.heap.size w w'
set_option maxHeartbeats 1600000 in
theorem spec_add (A1 : Option Addr) (n1 c1 : Nat) (xs : List Int) (A2 : Option Addr) (n2 c2 : Nat) (ys : List Int) (w : World) (h1 : InI w A1 n1 xs) (h2 : InI w A2 n2 ys) (k1 : InR xs) (k2 : InR ys) :
    Calls Tryz.prog 216 #[.slice A1 n1 c1, .slice A2 n2 c2] w fun e w' => SumEnd (val xs + val ys) 1048577 w w' e := by
  obtain ⟨i0, hi, hz0, hz1, hz2⟩ := info_parts Tryz.infoI
  obtain ⟨hn1, hb1, hr1, _⟩ := h1
  obtain ⟨hn2, hb2, hr2, _⟩ := h2
  have Hn1 := Lib.hid hn1
  have Hn2 := Lib.hid hn2
  have Hr1 := Lib.hid hr1
  have Hr2 := Lib.hid hr2
  have K1 := Lib.hid k1
  have K2 := Lib.hid k2
  clear hn1 hn2 hr1 hr2 k1 k2
  go_enter Tryz.func216, Tryz.ntmps216
  go_wp2_with fail
  go_loopw [5, 6, 7, 8] (fun x y z _ wr => ∃ (k : Nat) (cy : Int) (r : List Int), z = .int .i64 k ∧ y = .int .i64 cy ∧ 0 ≤ cy ∧ cy ≤ 1 ∧ k ≤ 1048577 ∧ (k ≤ n1 ∨ k ≤ n2 ∨ cy ≤ 0) ∧ Hid (AddAt xs ys k cy r) ∧ Hid (wr.ownsRow w.heap.size 3 1 x k (r.map (.int .i64))) ∧ Hid (Below w.heap.size w wr)) (fun _ y z _ _ => 2 * (n1 + n2 + 2 - (intOf z).toNat) + (intOf y).toNat)
  case atStart => exact ⟨0, 0, [], rfl, rfl, by omega, by omega, by omega, by omega, ⟨rfl, InR.nil, by simp [val], by omega, by omega⟩, World.ownsRow_lit w #[] 0 (Nat.le_refl _) (by simp) (by simp), (Below.refl _ _).alloc (Nat.le_refl _) _⟩
  case round =>
    obtain ⟨k, cy, r, rfl, rfl, hc0, hc1, hkb, hkm, hat, ho, hb⟩ := hrel
    obtain ⟨wo, rfl⟩ : ∃ wo : World, wo = wr := ⟨_, rfl⟩
    have hk0 : (0 : Int) ≤ (k : Int) := by omega
    by_cases ha : k < n1
    · by_cases hbb : k < n2
      · have hix1 : k < xs.length := by rw [Hn1.out]; omega
        obtain ⟨b1, o1, rfl, hbs1, hcc1⟩ := (Hr1.out.below hb.out).at_ (by simp; omega)
        obtain ⟨x, hx⟩ : ∃ x, x = xs[k] := ⟨_, rfl⟩
        have g1 : wo.cell? ⟨b1, o1 + k, none⟩ = some (.int .i64 x) := (hcc1 k (by simpa using hix1)).trans (by simp [hx])
        have l1 : lim xs k = x := by unfold lim; rw [List.getD_eq_getElem?_getD, List.getElem?_eq_getElem hix1, hx]; rfl
        have hi1 : (k : Int) < (n1 : Int) := by omega
        have hix2 : k < ys.length := by rw [Hn2.out]; omega
        obtain ⟨b2, o2, rfl, hbs2, hcc2⟩ := (Hr2.out.below hb.out).at_ (by simp; omega)
        obtain ⟨y, hy⟩ : ∃ y, y = ys[k] := ⟨_, rfl⟩
        have g2 : wo.cell? ⟨b2, o2 + k, none⟩ = some (.int .i64 y) := (hcc2 k (by simpa using hix2)).trans (by simp [hy])
        have l2 : lim ys k = y := by unfold lim; rw [List.getD_eq_getElem?_getD, List.getElem?_eq_getElem hix2, hy]; rfl
        have hi2 : (k : Int) < (n2 : Int) := by omega
        have hst := hat.out.step K1.out K2.out
        rw [l1, l2] at hst
        have q1 := lim_bd K1.out k
        have q2 := lim_bd K2.out k
        rw [l1] at q1
        rw [l2] at q2
        obtain ⟨q10, q11⟩ := q1
        obtain ⟨q20, q21⟩ := q2
        have Hst : Hid (AddAt xs ys (k + 1) ((cy + x + y) / 1000000000) (r ++ [(cy + x + y) % 1000000000])) := Lib.hid (by simpa using hst)
        clear hst l1 l2 hx hy hcc1 hcc2
        go_wp2_with (at_builtin; refine wpList_append_own _ rfl _ _ 30 rfl w.heap.size 3 i0 (.int .i64 0) 1 8 Tryz.underlying30 hi hz0 hz1 hz2 rfl (by decide) _ _ _ rfl (ho.out.alloc _) ⟨wo.heap.size, 0, none⟩ 1 1 [.int .i64 ((cy + x + y) % 1000000000)] rfl rfl ?c1 ?c2 ?c3 ?c4 ?c5 ?_)
        case c1 => exact cell_one_new _ _ _
        case c2 => simp [Value.oneCell']
        case c3 => unfold maxLen; omega
        case c4 => omega
        case c5 => have := hb.out.size; simp; omega
        intro v' w1 hown hg _
        have hb1 := Lib.hid ((hb.out.alloc hb.out.size _).grown hg (by have := hb.out.size; simp; omega) (fun j hj => (ho.out.lt j hj).1))
        have ho1 : Hid (w1.ownsRow w.heap.size 3 1 v' (k + 1) ((r ++ [(cy + x + y) % 1000000000]).map (.int .i64))) := by
          unfold Hid; simpa using hown
        clear hown hg
        go_wp2_with fail
        go_roundw
        case rel => exact ⟨k + 1, _, _, by go_num, rfl, Hst.out.2.2.2.1, Hst.out.2.2.2.2, by omega, by omega, Hst, ho1, hb1⟩
        case measure => simp [intOf]; omega
      · have hix1 : k < xs.length := by rw [Hn1.out]; omega
        obtain ⟨b1, o1, rfl, hbs1, hcc1⟩ := (Hr1.out.below hb.out).at_ (by simp; omega)
        obtain ⟨x, hx⟩ : ∃ x, x = xs[k] := ⟨_, rfl⟩
        have g1 : wo.cell? ⟨b1, o1 + k, none⟩ = some (.int .i64 x) := (hcc1 k (by simpa using hix1)).trans (by simp [hx])
        have l1 : lim xs k = x := by unfold lim; rw [List.getD_eq_getElem?_getD, List.getElem?_eq_getElem hix1, hx]; rfl
        have hi1 : (k : Int) < (n1 : Int) := by omega
        have l2 : lim ys k = 0 := by unfold lim; rw [List.getD_eq_getElem?_getD, List.getElem?_eq_none (by rw [Hn2.out]; omega)]; rfl
        have hi2 : (n2 : Int) ≤ (k : Int) := by omega
        have hst := hat.out.step K1.out K2.out
        rw [l1, l2] at hst
        have q1 := lim_bd K1.out k
        have q2 := lim_bd K2.out k
        rw [l1] at q1
        rw [l2] at q2
        obtain ⟨q10, q11⟩ := q1
        obtain ⟨q20, q21⟩ := q2
        have Hst : Hid (AddAt xs ys (k + 1) ((cy + x) / 1000000000) (r ++ [(cy + x) % 1000000000])) := Lib.hid (by simpa using hst)
        clear hst l1 l2 hx hcc1
        go_wp2_with (at_builtin; refine wpList_append_own _ rfl _ _ 30 rfl w.heap.size 3 i0 (.int .i64 0) 1 8 Tryz.underlying30 hi hz0 hz1 hz2 rfl (by decide) _ _ _ rfl (ho.out.alloc _) ⟨wo.heap.size, 0, none⟩ 1 1 [.int .i64 ((cy + x) % 1000000000)] rfl rfl ?c1 ?c2 ?c3 ?c4 ?c5 ?_)
        case c1 => exact cell_one_new _ _ _
        case c2 => simp [Value.oneCell']
        case c3 => unfold maxLen; omega
        case c4 => omega
        case c5 => have := hb.out.size; simp; omega
        intro v' w1 hown hg _
        have hb1 := Lib.hid ((hb.out.alloc hb.out.size _).grown hg (by have := hb.out.size; simp; omega) (fun j hj => (ho.out.lt j hj).1))
        have ho1 : Hid (w1.ownsRow w.heap.size 3 1 v' (k + 1) ((r ++ [(cy + x) % 1000000000]).map (.int .i64))) := by
          unfold Hid; simpa using hown
        clear hown hg
        go_wp2_with fail
        go_roundw
        case rel => exact ⟨k + 1, _, _, by go_num, rfl, Hst.out.2.2.2.1, Hst.out.2.2.2.2, by omega, by omega, Hst, ho1, hb1⟩
        case measure => simp [intOf]; omega
    · by_cases hbb : k < n2
      · have l1 : lim xs k = 0 := by unfold lim; rw [List.getD_eq_getElem?_getD, List.getElem?_eq_none (by rw [Hn1.out]; omega)]; rfl
        have hi1 : (n1 : Int) ≤ (k : Int) := by omega
        have hix2 : k < ys.length := by rw [Hn2.out]; omega
        obtain ⟨b2, o2, rfl, hbs2, hcc2⟩ := (Hr2.out.below hb.out).at_ (by simp; omega)
        obtain ⟨y, hy⟩ : ∃ y, y = ys[k] := ⟨_, rfl⟩
        have g2 : wo.cell? ⟨b2, o2 + k, none⟩ = some (.int .i64 y) := (hcc2 k (by simpa using hix2)).trans (by simp [hy])
        have l2 : lim ys k = y := by unfold lim; rw [List.getD_eq_getElem?_getD, List.getElem?_eq_getElem hix2, hy]; rfl
        have hi2 : (k : Int) < (n2 : Int) := by omega
        have hst := hat.out.step K1.out K2.out
        rw [l1, l2] at hst
        have q1 := lim_bd K1.out k
        have q2 := lim_bd K2.out k
        rw [l1] at q1
        rw [l2] at q2
        obtain ⟨q10, q11⟩ := q1
        obtain ⟨q20, q21⟩ := q2
        have Hst : Hid (AddAt xs ys (k + 1) ((cy + y) / 1000000000) (r ++ [(cy + y) % 1000000000])) := Lib.hid (by simpa using hst)
        clear hst l1 l2 hy hcc2
        go_wp2_with (at_builtin; refine wpList_append_own _ rfl _ _ 30 rfl w.heap.size 3 i0 (.int .i64 0) 1 8 Tryz.underlying30 hi hz0 hz1 hz2 rfl (by decide) _ _ _ rfl (ho.out.alloc _) ⟨wo.heap.size, 0, none⟩ 1 1 [.int .i64 ((cy + y) % 1000000000)] rfl rfl ?c1 ?c2 ?c3 ?c4 ?c5 ?_)
        case c1 => exact cell_one_new _ _ _
        case c2 => simp [Value.oneCell']
        case c3 => unfold maxLen; omega
        case c4 => omega
        case c5 => have := hb.out.size; simp; omega
        intro v' w1 hown hg _
        have hb1 := Lib.hid ((hb.out.alloc hb.out.size _).grown hg (by have := hb.out.size; simp; omega) (fun j hj => (ho.out.lt j hj).1))
        have ho1 : Hid (w1.ownsRow w.heap.size 3 1 v' (k + 1) ((r ++ [(cy + y) % 1000000000]).map (.int .i64))) := by
          unfold Hid; simpa using hown
        clear hown hg
        go_wp2_with fail
        go_roundw
        case rel => exact ⟨k + 1, _, _, by go_num, rfl, Hst.out.2.2.2.1, Hst.out.2.2.2.2, by omega, by omega, Hst, ho1, hb1⟩
        case measure => simp [intOf]; omega
      · by_cases hcy : 0 < cy
        · have l1 : lim xs k = 0 := by unfold lim; rw [List.getD_eq_getElem?_getD, List.getElem?_eq_none (by rw [Hn1.out]; omega)]; rfl
          have hi1 : (n1 : Int) ≤ (k : Int) := by omega
          have l2 : lim ys k = 0 := by unfold lim; rw [List.getD_eq_getElem?_getD, List.getElem?_eq_none (by rw [Hn2.out]; omega)]; rfl
          have hi2 : (n2 : Int) ≤ (k : Int) := by omega
          have hst := hat.out.step K1.out K2.out
          rw [l1, l2] at hst
          have q1 := lim_bd K1.out k
          have q2 := lim_bd K2.out k
          rw [l1] at q1
          rw [l2] at q2
          obtain ⟨q10, q11⟩ := q1
          obtain ⟨q20, q21⟩ := q2
          have Hst : Hid (AddAt xs ys (k + 1) (cy / 1000000000) (r ++ [cy % 1000000000])) := Lib.hid (by simpa using hst)
          clear hst l1 l2 ha
          go_wp2_with (at_builtin; refine wpList_append_own _ rfl _ _ 30 rfl w.heap.size 3 i0 (.int .i64 0) 1 8 Tryz.underlying30 hi hz0 hz1 hz2 rfl (by decide) _ _ _ rfl (ho.out.alloc _) ⟨wo.heap.size, 0, none⟩ 1 1 [.int .i64 (cy % 1000000000)] rfl rfl ?c1 ?c2 ?c3 ?c4 ?c5 ?_)
          case c1 => exact cell_one_new _ _ _
          case c2 => simp [Value.oneCell']
          case c3 => unfold maxLen; omega
          case c4 => omega
          case c5 => have := hb.out.size; simp; omega
          intro v' w1 hown hg _
          have hb1 := Lib.hid ((hb.out.alloc hb.out.size _).grown hg (by have := hb.out.size; simp; omega) (fun j hj => (ho.out.lt j hj).1))
          have ho1 : Hid (w1.ownsRow w.heap.size 3 1 v' (k + 1) ((r ++ [cy % 1000000000]).map (.int .i64))) := by
            unfold Hid; simpa using hown
          clear hown hg
          go_wp2_with fail
          go_roundw
          case rel => exact ⟨k + 1, _, _, by go_num, rfl, Hst.out.2.2.2.1, Hst.out.2.2.2.2, by omega, by omega, Hst, ho1, hb1⟩
          case measure => simp [intOf]; omega
        · have hfin : Hid (InR r ∧ val r = val xs + val ys) := by
            obtain rfl : cy = 0 := by omega
            exact hat.out.done (by rw [Hn1.out]; omega) (by rw [Hn2.out]; omega)
          have hi1 : (n1 : Int) ≤ (k : Int) := by omega
          have hi2 : (n2 : Int) ≤ (k : Int) := by omega
          have Hk := Lib.hid hat.out.1
          go_wp2_with fail
          go_ret
          obtain ⟨A, c, hv⟩ := own_slice ho.out
          subst hv
          have ho2 := ho.out
          rw [← Hk.out] at ho2
          exact ⟨r, A, c, by rw [Hk.out]; rfl, hfin.out.1, hfin.out.2, by rw [Hk.out]; omega, ho2, hb.out⟩


/-- The difference after k places: the limbs, what is still to be taken off. -/
def SubAt (xs ys : List Int) (k : Nat) (le : Int) (r : List Int) : Prop := r.length = k ∧ InR r ∧ val r = val (xs.take k) - val (ys.take k) + pw k * le ∧ 0 ≤ le ∧ le ≤ 1
theorem SubAt.step0 {xs ys r : List Int} {k : Nat} {le d : Int} (h : SubAt xs ys k le r) (hd : d = lim xs k - le - lim ys k) (hx : InR xs) (hy : InR ys) (h0 : 0 ≤ d) : SubAt xs ys (k + 1) 0 (r ++ [d]) := by
  obtain ⟨h1, h2, h3, h4, h5⟩ := h
  have bx := lim_bd hx k
  have by_ := lim_bd hy k
  refine ⟨by simp [h1], h2.append (InR.one h0 (by omega)), ?_, by omega, by omega⟩
  rw [val_take_succ, val_take_succ, val_snoc, h1, h3, hd, Int.mul_sub, Int.mul_sub]; omega
theorem SubAt.step1 {xs ys r : List Int} {k : Nat} {le d : Int} (h : SubAt xs ys k le r) (hd : d = lim xs k - le - lim ys k) (hx : InR xs) (hy : InR ys) (h0 : d < 0) : SubAt xs ys (k + 1) 1 (r ++ [d + 1000000000]) := by
  obtain ⟨h1, h2, h3, h4, h5⟩ := h
  have bx := lim_bd hx k
  have by_ := lim_bd hy k
  refine ⟨by simp [h1], h2.append (InR.one (by omega) (by omega)), ?_, by omega, by omega⟩
  rw [val_take_succ, val_take_succ, val_snoc, h1, h3, hd, Int.mul_add, Int.mul_sub, Int.mul_sub, pw, Int.mul_comm 1000000000]; omega
theorem SubAt.done {xs ys r : List Int} {k : Nat} {le : Int} (h : SubAt xs ys k le r) (hx : xs.length ≤ k) (hy : ys.length ≤ k) (hle : val ys ≤ val xs) : InR r ∧ val r = val xs - val ys := by
  obtain ⟨h1, h2, h3, h4, h5⟩ := h
  rw [List.take_of_length_le hx, List.take_of_length_le hy] at h3
  have h6 := val_lt h2
  rw [h1] at h6
  have h7 : le = 0 := by
    by_cases e : le = 0
    · exact e
    · obtain rfl : le = 1 := by omega
      rw [Int.mul_one] at h3; omega
  subst h7
  exact ⟨h2, by rw [h3]; simp⟩
theorem longer_ge {l m : List Int} (hl : Canon l) (hm : InR m) (h : val l ≤ val m) : l.length ≤ m.length := by
  by_cases e : l.length ≤ m.length
  · exact e
  · have := shorter_lt hm hl (by omega); omega
/-- A natural number's list, in memory of its own. -/
def CanEnd (t : Int) (B : Nat) (w w' : World) (e : Ending) : Prop := ∃ r A c, e = .returned (.slice A r.length c) ∧ Canon r ∧ val r = t ∧ r.length ≤ B ∧ w'.ownsRow w.heap.size 3 1 (.slice A r.length c) r.length (r.map (.int .i64)) ∧ Below w.heap.size w w'
set_option maxHeartbeats 1600000 in
theorem spec_sub (A1 : Option Addr) (n1 c1 : Nat) (xs : List Int) (A2 : Option Addr) (n2 c2 : Nat) (ys : List Int) (w : World) (h1 : xs.length = n1 ∧ n1 ≤ 1048576 ∧ Reads w A1 (xs.map (.int .i64))) (h2 : ys.length = n2 ∧ n2 ≤ 1048576 ∧ Reads w A2 (ys.map (.int .i64))) (k1 : Canon xs) (k2 : Canon ys) (hle : val ys ≤ val xs) :
    Calls Tryz.prog 218 #[.slice A1 n1 c1, .slice A2 n2 c2] w fun e w' => CanEnd (val xs - val ys) n1 w w' e := by
  obtain ⟨i0, hi, hz0, hz1, hz2⟩ := info_parts Tryz.infoI
  obtain ⟨hn1, hb1, hr1⟩ := h1
  obtain ⟨hn2, hb2, hr2⟩ := h2
  have hnn := longer_ge k2 k1.1 hle
  rw [hn1, hn2] at hnn
  have Hn1 := Lib.hid hn1
  have Hn2 := Lib.hid hn2
  have Hr1 := Lib.hid hr1
  have Hr2 := Lib.hid hr2
  have K1 := Lib.hid k1.1
  have K2 := Lib.hid k2.1
  have Hle := Lib.hid hle
  clear hn1 hn2 hr1 hr2 k1 k2 hle
  go_enter Tryz.func218, Tryz.ntmps218
  go_wp2_with fail
  go_loopw [5, 6, 7, 8, 12] (fun x y _ _ z wr => ∃ (k : Nat) (le : Int) (r : List Int), z = .int .i64 k ∧ y = .int .i64 le ∧ 0 ≤ le ∧ le ≤ 1 ∧ k ≤ n1 ∧ Hid (SubAt xs ys k le r) ∧ Hid (wr.ownsRow w.heap.size 3 1 x k (r.map (.int .i64))) ∧ Hid (Below w.heap.size w wr)) (fun _ _ _ _ z _ => n1 - (intOf z).toNat)
  case atStart => exact ⟨0, 0, [], rfl, rfl, by omega, by omega, by omega, ⟨rfl, InR.nil, by simp [val], by omega, by omega⟩, World.ownsRow_lit w #[] 0 (Nat.le_refl _) (by simp) (by simp), (Below.refl _ _).alloc (Nat.le_refl _) _⟩
  case round =>
    obtain ⟨k, le, r, rfl, rfl, hc0, hc1, hkb, hat, ho, hb⟩ := hrel
    obtain ⟨wo, rfl⟩ : ∃ wo : World, wo = wr := ⟨_, rfl⟩
    have hk0 : (0 : Int) ≤ (k : Int) := by omega
    by_cases ha : k < n1
    · by_cases hbb : k < n2
      · have hix1 : k < xs.length := by rw [Hn1.out]; omega
        obtain ⟨b1, o1, rfl, hbs1, hcc1⟩ := (Hr1.out.below hb.out).at_ (by simp; omega)
        obtain ⟨x, hx⟩ : ∃ x, x = xs[k] := ⟨_, rfl⟩
        have g1 : wo.cell? ⟨b1, o1 + k, none⟩ = some (.int .i64 x) := (hcc1 k (by simpa using hix1)).trans (by simp [hx])
        have l1 : lim xs k = x := by unfold lim; rw [List.getD_eq_getElem?_getD, List.getElem?_eq_getElem hix1, hx]; rfl
        have hi1 : (k : Int) < (n1 : Int) := by omega
        have hix2 : k < ys.length := by rw [Hn2.out]; omega
        obtain ⟨b2, o2, rfl, hbs2, hcc2⟩ := (Hr2.out.below hb.out).at_ (by simp; omega)
        obtain ⟨y, hy⟩ : ∃ y, y = ys[k] := ⟨_, rfl⟩
        have g2 : wo.cell? ⟨b2, o2 + k, none⟩ = some (.int .i64 y) := (hcc2 k (by simpa using hix2)).trans (by simp [hy])
        have l2 : lim ys k = y := by unfold lim; rw [List.getD_eq_getElem?_getD, List.getElem?_eq_getElem hix2, hy]; rfl
        have hi2 : (k : Int) < (n2 : Int) := by omega
        by_cases hneg : x - le - y < 0
        · have hst := hat.out.step1 (d := x - le - y) (by rw [l1, l2]) K1.out K2.out (by omega)
          have q1 := lim_bd K1.out k
          have q2 := lim_bd K2.out k
          rw [l1] at q1
          rw [l2] at q2
          obtain ⟨q10, q11⟩ := q1
          obtain ⟨q20, q21⟩ := q2
          have Hst := Lib.hid hst
          clear hst l1 l2 hx hy hcc1 hcc2
          have hq3 : k + 1 ≤ maxLen := by unfold maxLen; omega
          have hq4 : (k + 1) * 8 ≤ 140737488355328 := by omega
          go_wp2_with (at_builtin; refine wpList_append_own _ rfl _ _ 30 rfl w.heap.size 3 i0 (.int .i64 0) 1 8 Tryz.underlying30 hi hz0 hz1 hz2 rfl (by decide) _ _ _ rfl (ho.out.alloc _) ⟨wo.heap.size, 0, none⟩ 1 1 [.int .i64 (x - le - y + 1000000000)] rfl rfl (cell_one_new _ _ _) (by simp [Value.oneCell']) hq3 hq4 (by have := hb.out.size; simp; omega) ?_)
          intro v' w1 hown hg _
          have hb1 := Lib.hid ((hb.out.alloc hb.out.size _).grown hg (by have := hb.out.size; simp; omega) (fun j hj => (ho.out.lt j hj).1))
          have ho1 : Hid (w1.ownsRow w.heap.size 3 1 v' (k + 1) ((r ++ [x - le - y + 1000000000]).map (.int .i64))) := by
            unfold Hid; simpa using hown
          clear hown hg
          go_wp2_with fail
          go_roundw
          case rel => exact ⟨k + 1, 1, _, by go_num, rfl, by omega, by omega, by omega, Hst, ho1, hb1⟩
          case measure => simp [intOf]; omega
        · have hst := hat.out.step0 (d := x - le - y) (by rw [l1, l2]) K1.out K2.out (by omega)
          have q1 := lim_bd K1.out k
          have q2 := lim_bd K2.out k
          rw [l1] at q1
          rw [l2] at q2
          obtain ⟨q10, q11⟩ := q1
          obtain ⟨q20, q21⟩ := q2
          have Hst := Lib.hid hst
          clear hst l1 l2 hx hy hcc1 hcc2
          have hq3 : k + 1 ≤ maxLen := by unfold maxLen; omega
          have hq4 : (k + 1) * 8 ≤ 140737488355328 := by omega
          go_wp2_with (at_builtin; refine wpList_append_own _ rfl _ _ 30 rfl w.heap.size 3 i0 (.int .i64 0) 1 8 Tryz.underlying30 hi hz0 hz1 hz2 rfl (by decide) _ _ _ rfl (ho.out.alloc _) ⟨wo.heap.size, 0, none⟩ 1 1 [.int .i64 (x - le - y)] rfl rfl (cell_one_new _ _ _) (by simp [Value.oneCell']) hq3 hq4 (by have := hb.out.size; simp; omega) ?_)
          intro v' w1 hown hg _
          have hb1 := Lib.hid ((hb.out.alloc hb.out.size _).grown hg (by have := hb.out.size; simp; omega) (fun j hj => (ho.out.lt j hj).1))
          have ho1 : Hid (w1.ownsRow w.heap.size 3 1 v' (k + 1) ((r ++ [x - le - y]).map (.int .i64))) := by
            unfold Hid; simpa using hown
          clear hown hg
          go_wp2_with fail
          go_roundw
          case rel => exact ⟨k + 1, 0, _, by go_num, rfl, by omega, by omega, by omega, Hst, ho1, hb1⟩
          case measure => simp [intOf]; omega
      · have hix1 : k < xs.length := by rw [Hn1.out]; omega
        obtain ⟨b1, o1, rfl, hbs1, hcc1⟩ := (Hr1.out.below hb.out).at_ (by simp; omega)
        obtain ⟨x, hx⟩ : ∃ x, x = xs[k] := ⟨_, rfl⟩
        have g1 : wo.cell? ⟨b1, o1 + k, none⟩ = some (.int .i64 x) := (hcc1 k (by simpa using hix1)).trans (by simp [hx])
        have l1 : lim xs k = x := by unfold lim; rw [List.getD_eq_getElem?_getD, List.getElem?_eq_getElem hix1, hx]; rfl
        have hi1 : (k : Int) < (n1 : Int) := by omega
        have l2 : lim ys k = 0 := by unfold lim; rw [List.getD_eq_getElem?_getD, List.getElem?_eq_none (by rw [Hn2.out]; omega)]; rfl
        have hi2 : (n2 : Int) ≤ (k : Int) := by omega
        by_cases hneg : x - le < 0
        · have hst := hat.out.step1 (d := x - le) (by rw [l1, l2]; omega) K1.out K2.out (by omega)
          have q1 := lim_bd K1.out k
          have q2 := lim_bd K2.out k
          rw [l1] at q1
          rw [l2] at q2
          obtain ⟨q10, q11⟩ := q1
          obtain ⟨q20, q21⟩ := q2
          have Hst := Lib.hid hst
          clear hst l1 l2 hx hcc1
          have hq3 : k + 1 ≤ maxLen := by unfold maxLen; omega
          have hq4 : (k + 1) * 8 ≤ 140737488355328 := by omega
          go_wp2_with (at_builtin; refine wpList_append_own _ rfl _ _ 30 rfl w.heap.size 3 i0 (.int .i64 0) 1 8 Tryz.underlying30 hi hz0 hz1 hz2 rfl (by decide) _ _ _ rfl (ho.out.alloc _) ⟨wo.heap.size, 0, none⟩ 1 1 [.int .i64 (x - le + 1000000000)] rfl rfl (cell_one_new _ _ _) (by simp [Value.oneCell']) hq3 hq4 (by have := hb.out.size; simp; omega) ?_)
          intro v' w1 hown hg _
          have hb1 := Lib.hid ((hb.out.alloc hb.out.size _).grown hg (by have := hb.out.size; simp; omega) (fun j hj => (ho.out.lt j hj).1))
          have ho1 : Hid (w1.ownsRow w.heap.size 3 1 v' (k + 1) ((r ++ [x - le + 1000000000]).map (.int .i64))) := by
            unfold Hid; simpa using hown
          clear hown hg
          go_wp2_with fail
          go_roundw
          case rel => exact ⟨k + 1, 1, _, by go_num, rfl, by omega, by omega, by omega, Hst, ho1, hb1⟩
          case measure => simp [intOf]; omega
        · have hst := hat.out.step0 (d := x - le) (by rw [l1, l2]; omega) K1.out K2.out (by omega)
          have q1 := lim_bd K1.out k
          have q2 := lim_bd K2.out k
          rw [l1] at q1
          rw [l2] at q2
          obtain ⟨q10, q11⟩ := q1
          obtain ⟨q20, q21⟩ := q2
          have Hst := Lib.hid hst
          clear hst l1 l2 hx hcc1
          have hq3 : k + 1 ≤ maxLen := by unfold maxLen; omega
          have hq4 : (k + 1) * 8 ≤ 140737488355328 := by omega
          go_wp2_with (at_builtin; refine wpList_append_own _ rfl _ _ 30 rfl w.heap.size 3 i0 (.int .i64 0) 1 8 Tryz.underlying30 hi hz0 hz1 hz2 rfl (by decide) _ _ _ rfl (ho.out.alloc _) ⟨wo.heap.size, 0, none⟩ 1 1 [.int .i64 (x - le)] rfl rfl (cell_one_new _ _ _) (by simp [Value.oneCell']) hq3 hq4 (by have := hb.out.size; simp; omega) ?_)
          intro v' w1 hown hg _
          have hb1 := Lib.hid ((hb.out.alloc hb.out.size _).grown hg (by have := hb.out.size; simp; omega) (fun j hj => (ho.out.lt j hj).1))
          have ho1 : Hid (w1.ownsRow w.heap.size 3 1 v' (k + 1) ((r ++ [x - le]).map (.int .i64))) := by
            unfold Hid; simpa using hown
          clear hown hg
          go_wp2_with fail
          go_roundw
          case rel => exact ⟨k + 1, 0, _, by go_num, rfl, by omega, by omega, by omega, Hst, ho1, hb1⟩
          case measure => simp [intOf]; omega
    · obtain rfl : k = n1 := by omega
      have hfin := Lib.hid (hat.out.done (by rw [Hn1.out]; exact Nat.le_refl _) (by rw [Hn2.out]; exact hnn) Hle.out)
      have Hk := Lib.hid hat.out.1
      obtain ⟨A, c, rfl⟩ := own_slice ho.out
      go_wp2_with fail
      refine (spec_trim w.heap.size A k c r _ Hk.out (by omega) ho.out).mono ?_
      rintro e w' ⟨⟨m, rfl, ht⟩, rfl⟩
      obtain ⟨hcn, hvl⟩ := ht.canon hfin.out.1
      have hlm : (r.take m).length = m := by have := ht.1; simp; omega
      have hown := own_take ho.out (m := m) (by have := ht.1; rw [Hk.out] at this; exact this)
      rw [← List.map_take] at hown
      have hend : Hid (CanEnd (val xs - val ys) k w wo (.returned (.slice A m c))) :=
        ⟨r.take m, A, c, by rw [hlm], hcn, hvl.trans hfin.out.2, by rw [hlm]; have := ht.1; rw [Hk.out] at this; exact this, by rw [hlm]; exact hown, hb.out⟩
      clear ht hcn hvl hlm hown
      go_wp2_with fail
      go_ret
      exact hend.out
end Go.Proofs.YtegclofijaoajaaGreat
namespace Go.Proofs.YtegclofijaoajaaGreat
set_option maxRecDepth 100000
open Go.RowKit

theorem own_lower {w : World} {base base' : Nat} {E : TypeId} {size n : Nat} {v : Value} {xs : List Value} (h : w.ownsRow base E size v n xs) (hb : base' ≤ base) : w.ownsRow base' E size v n xs := by
  refine ⟨h.1, ?_⟩
  rcases h.2 with h | ⟨g, cap, cur, h1, h2, h3⟩
  · exact .inl h
  · exact .inr ⟨g, cap, cur, h1, by omega, h3⟩

end Go.Proofs.YtegclofijaoajaaGreat
namespace Go.Proofs.YtegclofijaoajaaGreat
set_option maxRecDepth 100000
open Go.RowKit

/-- The product after i whole rows: the limbs. -/
def MulAt (xs ys : List Int) (L i : Nat) (os : List Int) : Prop := os.length = L ∧ InR os ∧ val os = val (xs.take i) * val ys ∧ ZeroFrom os (i + ys.length)
/-- .. and j places into the next row, x its limb, cy the carry. -/
def RowAt (xs ys : List Int) (L i : Nat) (x : Int) (j : Nat) (cy : Int) (os : List Int) : Prop :=
  os.length = L ∧ InR os ∧ val os + pw (i + j) * cy = val (xs.take i) * val ys + pw i * (x * val (ys.take j)) ∧ ZeroFrom os (i + ys.length) ∧ 0 ≤ cy ∧ cy ≤ 999999999
theorem MulAt.row {xs ys os : List Int} {L i : Nat} (x : Int) (h : MulAt xs ys L i os) : RowAt xs ys L i x 0 0 os :=
  ⟨h.1, h.2.1, by rw [h.2.2.1]; simp [val], h.2.2.2, by omega, by omega⟩
theorem RowAt.step {xs ys os : List Int} {L i j : Nat} {x cy y o : Int} (h : RowAt xs ys L i x j cy os) (hj : j < ys.length) (hy : y = ys[j]) (hij : i + j < os.length) (ho : o = os[i + j]) (hS : 0 ≤ o + x * y + cy) (hS1 : o + x * y + cy ≤ 999999999999999999) :
    RowAt xs ys L i x (j + 1) ((o + x * y + cy) / 1000000000) (os.set (i + j) ((o + x * y + cy) % 1000000000)) := by
  obtain ⟨h1, h2, h3, h4, h5, h6⟩ := h
  refine ⟨by simpa using h1, h2.set _ (by omega) (by omega), ?_, h4.set (by omega) _, by omega, by omega⟩
  rw [val_set _ _ _ hij, val_take_succ, ← ho, ← Nat.add_assoc, pw]
  have hl : lim ys j = y := by unfold lim; rw [List.getD_eq_getElem?_getD, List.getElem?_eq_getElem hj, hy]; rfl
  rw [hl]
  have e : pw (i + j) * ((o + x * y + cy) % 1000000000 - o) + 1000000000 * pw (i + j) * ((o + x * y + cy) / 1000000000) = pw (i + j) * (x * y) + pw (i + j) * cy := by
    rw [Int.mul_comm 1000000000, Int.mul_assoc, ← Int.mul_add, ← Int.mul_add]
    congr 1; omega
  have e2 : pw i * (x * (val (ys.take j) + pw j * y)) = pw i * (x * val (ys.take j)) + pw (i + j) * (x * y) := by
    rw [Int.mul_add, Int.mul_add, pw_add, Int.mul_left_comm x (pw j) y, Int.mul_assoc]
  rw [e2]; omega
theorem RowAt.next {xs ys os : List Int} {L i : Nat} {x cy : Int} (h : RowAt xs ys L i x ys.length cy os) (hi : i < xs.length) (hx : x = xs[i]) (hl : i + ys.length < os.length) : MulAt xs ys L (i + 1) (os.set (i + ys.length) cy) := by
  obtain ⟨h1, h2, h3, h4, h5, h6⟩ := h
  refine ⟨by simpa using h1, h2.set _ h5 h6, ?_, by have := h4.set_last cy; rwa [Nat.add_right_comm] at this⟩
  have hlx : lim xs i = x := by unfold lim; rw [List.getD_eq_getElem?_getD, List.getElem?_eq_getElem hi, hx]; rfl
  rw [val_set _ _ _ hl, h4 _ hl (Nat.le_refl _), val_take_succ, hlx, Int.sub_zero, h3, List.take_of_length_le (Nat.le_refl _), Int.add_mul, Int.mul_assoc]
set_option maxHeartbeats 1600000 in
theorem spec_mul (A1 : Option Addr) (n1 c1 : Nat) (xs : List Int) (A2 : Option Addr) (n2 c2 : Nat) (ys : List Int) (w : World) (h1 : xs.length = n1 ∧ n1 ≤ 1048576 ∧ Reads w A1 (xs.map (.int .i64))) (h2 : ys.length = n2 ∧ n2 ≤ 1048576 ∧ Reads w A2 (ys.map (.int .i64))) (k1 : InR xs) (k2 : InR ys) :
    Calls Tryz.prog 161 #[.slice A1 n1 c1, .slice A2 n2 c2] w fun e w' => CanEnd (val xs * val ys) (n1 + n2) w w' e := by
  obtain ⟨i0, hi, hz0, hz1, hz2⟩ := info_parts Tryz.infoI
  obtain ⟨hn1, hb1, hr1⟩ := h1
  obtain ⟨hn2, hb2, hr2⟩ := h2
  have Hn1 := Lib.hid hn1
  have Hn2 := Lib.hid hn2
  have Hr1 := Lib.hid hr1
  have Hr2 := Lib.hid hr2
  have K1 := Lib.hid k1
  have K2 := Lib.hid k2
  by_cases e1 : n1 = 0
  · have hfin : Hid (CanEnd (val xs * val ys) (n1 + n2) w w (.returned (.slice none 0 0))) :=
      ⟨[], none, 0, rfl, canon_nil, by rw [List.eq_nil_of_length_eq_zero (hn1.trans e1)]; simp [val], by simp, World.ownsRow_nil _ _ _ _, Below.refl _ _⟩
    have ht : ((n1 : Int) == 0) = true := by simp [e1]
    clear hn1 hn2 hr1 hr2 k1 k2 e1
    go_enter Tryz.func161, Tryz.ntmps161
    go_wp2_with fail
    go_ret
    exact hfin.out
  by_cases e2 : n2 = 0
  · have hfin : Hid (CanEnd (val xs * val ys) (n1 + n2) w w (.returned (.slice none 0 0))) :=
      ⟨[], none, 0, rfl, canon_nil, by rw [List.eq_nil_of_length_eq_zero (hn2.trans e2)]; simp [val], by simp, World.ownsRow_nil _ _ _ _, Below.refl _ _⟩
    have ht : ((n1 : Int) == 0) = false := by simp [e1]
    have ht2 : ((n2 : Int) == 0) = true := by simp [e2]
    clear hn1 hn2 hr1 hr2 k1 k2 e1 e2
    go_enter Tryz.func161, Tryz.ntmps161
    go_wp2_with fail
    go_ret
    exact hfin.out
  have ht1 : ((n1 : Int) == 0) = false := by simp [e1]
  have ht2 : ((n2 : Int) == 0) = false := by simp [e2]
  have hp1 : 0 < n1 := by omega
  have hp2 : 0 < n2 := by omega
  clear hn1 hn2 hr1 hr2 k1 k2 e1 e2
  go_enter Tryz.func161, Tryz.ntmps161
  go_wp2_with (refine wpList_make_full _ rfl _ _ 30 rfl w.heap.size 3 i0 (.int .i64 0) 1 Tryz.underlying30 hi hz0 hz1 _ _ _ _ (n1 + n2) rfl rfl (by omega) (by omega) (by rw [hz2]; omega) (by unfold maxLen; omega) (Nat.le_refl _) ?_)
  intro w1 ho hg
  have hrep : (madeCells #[Value.int .i64 0] (n1 + n2)).toList = (List.replicate (n1 + n2) (0 : Int)).map (.int .i64) := by
    simp [toList_madeCells_one]
  have O1 : Hid (w1.ownsRow w.heap.size 3 1 (.slice (some ⟨w.heap.size, 0, none⟩) (n1 + n2) (n1 + n2)) (n1 + n2) ((List.replicate (n1 + n2) (0 : Int)).map (.int .i64))) := by
    unfold Hid; rw [← hrep]; exact ho
  have B1 := Lib.hid ((Below.refl w.heap.size w).grown hg (Nat.le_refl _) (fun k hk => by cases hk))
  have M1 : Hid (MulAt xs ys (n1 + n2) 0 (List.replicate (n1 + n2) 0)) :=
    ⟨by simp, fun d hd => by rw [(List.mem_replicate.1 hd).2]; decide, by rw [zeros_val]; simp [val], fun j hj _ => by simp⟩
  clear ho hg hrep
  go_wp2_with fail
  go_loopw [28] (fun z wr => ∃ (i : Nat) (os : List Int), i ≤ n1 ∧ z = .int .i64 i ∧ Hid (MulAt xs ys (n1 + n2) i os) ∧ Hid (wr.ownsRow w.heap.size 3 1 (.slice (some ⟨w.heap.size, 0, none⟩) (n1 + n2) (n1 + n2)) (n1 + n2) (os.map (.int .i64))) ∧ Hid (Below w.heap.size w wr)) (fun z _ => n1 - (intOf z).toNat)
  case atStart => exact ⟨0, _, Nat.zero_le _, rfl, M1, O1, B1⟩
  case round =>
    obtain ⟨i, os, hin, rfl, hm, ho, hb⟩ := hrel
    by_cases hlt : i < n1
    · obtain ⟨wo, rfl⟩ : ∃ wo : World, wo = wr := ⟨_, rfl⟩
      have hix : i < xs.length := by rw [Hn1.out]; exact hlt
      obtain ⟨b1, o1, rfl, hbs1, hc1⟩ := (Hr1.out.below hb.out).at_ (by simp; omega)
      obtain ⟨x, hx⟩ : ∃ x, x = xs[i] := ⟨_, rfl⟩
      have g1 : wo.cell? ⟨b1, o1 + i, none⟩ = some (.int .i64 x) := (hc1 i (by simpa using hix)).trans (by simp [hx])
      have hxr := K1.out _ (List.getElem_mem hix)
      rw [← hx] at hxr
      obtain ⟨x0, x1⟩ := hxr
      have Hx := Lib.hid hx
      have hi0 : (0 : Int) ≤ (i : Int) := by omega
      have hi1 : (i : Int) < (n1 : Int) := by omega
      have hrow := Lib.hid (hm.out.row x)
      clear hc1 hx
      go_wp2_with fail
      go_loopw [8, 35] (fun y z wr => ∃ (j : Nat) (cy : Int) (os : List Int), j ≤ n2 ∧ z = .int .i64 j ∧ y = .int .i64 cy ∧ 0 ≤ cy ∧ cy ≤ 999999999 ∧ Hid (RowAt xs ys (n1 + n2) i x j cy os) ∧ Hid (wr.ownsRow w.heap.size 3 1 (.slice (some ⟨w.heap.size, 0, none⟩) (n1 + n2) (n1 + n2)) (n1 + n2) (os.map (.int .i64))) ∧ Hid (Below w.heap.size w wr)) (fun _ z _ => n2 - (intOf z).toNat)
      case atStart => exact ⟨0, 0, os, Nat.zero_le _, rfl, rfl, by omega, by omega, hrow, ho, hb⟩
      case round =>
        obtain ⟨j, cy, os, hjn, rfl, rfl, cy0, cy1, hr, ho, hb⟩ := hrel
        obtain ⟨wi, rfl⟩ : ∃ wi : World, wi = wr := ⟨_, rfl⟩
        by_cases hjt : j < n2
        · have hjy : j < ys.length := by rw [Hn2.out]; exact hjt
          obtain ⟨b2, o2, rfl, hbs2, hc2⟩ := (Hr2.out.below hb.out).at_ (by simp; omega)
          obtain ⟨y, hy⟩ : ∃ y, y = ys[j] := ⟨_, rfl⟩
          have g2 : wi.cell? ⟨b2, o2 + j, none⟩ = some (.int .i64 y) := (hc2 j (by simpa using hjy)).trans (by simp [hy])
          have hyr := K2.out _ (List.getElem_mem hjy)
          rw [← hy] at hyr
          obtain ⟨y0, y1⟩ := hyr
          have hij : i + j < os.length := by rw [hr.out.1]; omega
          obtain ⟨o, hoo⟩ : ∃ o, o = os[i + j] := ⟨_, rfl⟩
          have g3 : wi.cell? ⟨w.heap.size, i + j, none⟩ = some (.int .i64 o) := by
            rw [ho.out.cellAt (i + j) (by omega)]; simp [hij, hoo]
          have hor := hr.out.2.1 _ (List.getElem_mem hij)
          rw [← hoo] at hor
          obtain ⟨q0, q1⟩ := hor
          obtain ⟨p0, p1⟩ := prod_bd x0 x1 y0 y1
          have hnx := Lib.hid (hr.out.step hjy hy hij hoo (by omega) (by omega))
          have hfr := ho.out.frozenAt (i + j)
          have hst := ho.out.stored (i + j) (.int .i64 ((o + x * y + cy) % 1000000000))
          rw [map_set_int] at hst
          have ho2 := Lib.hid hst.1
          have hb2 := Lib.hid (below_marked hb.out ho.out hst.2 (Nat.le_refl _) hb.out.size)
          have hj0 : (0 : Int) ≤ (j : Int) := by omega
          have hj1 : (j : Int) < (n2 : Int) := by omega
          have hij2 : (i : Int) + (j : Int) < ((n1 + n2 : Nat) : Int) := by omega
          have hb3 : 0 ≤ (o + x * y + cy) / 1000000000 ∧ (o + x * y + cy) / 1000000000 ≤ 999999999 := by omega
          have Hb3 := Lib.hid hb3
          clear hc2 hy hoo hst hb3
          go_wp2_with fail
          go_roundw
          case rel => exact ⟨j + 1, _, _, by omega, by go_num, rfl, Hb3.out.1, Hb3.out.2, hnx, ho2, hb2⟩
          case measure => simp [intOf]; omega
        · obtain rfl : j = n2 := by omega
          have hjl : i + ys.length < os.length := by rw [Hn2.out, hr.out.1]; omega
          have hr2 := hr.out
          rw [← Hn2.out] at hr2
          have hnx := Lib.hid (hr2.next hix Hx.out hjl)
          rw [Hn2.out] at hnx
          obtain ⟨o, hoo⟩ : ∃ o, o = os[i + j]'(by rw [hr.out.1]; omega) := ⟨_, rfl⟩
          have g3 : wi.cell? ⟨w.heap.size, i + j, none⟩ = some (.int .i64 o) := by
            rw [ho.out.cellAt (i + j) (by omega)]; simp [hoo]
          have hfr := ho.out.frozenAt (i + j)
          have hst := ho.out.stored (i + j) (.int .i64 cy)
          rw [map_set_int] at hst
          have ho2 := Lib.hid hst.1
          have hb2 := Lib.hid (below_marked hb.out ho.out hst.2 (Nat.le_refl _) hb.out.size)
          have hij2 : (i : Int) + (j : Int) < ((n1 + j : Nat) : Int) := by omega
          clear hoo hst hr2
          go_wp2_with fail
          go_roundw
          case rel => exact ⟨i + 1, _, by omega, by go_num, hnx, ho2, hb2⟩
          case measure => simp [intOf]; omega
    · obtain rfl : i = n1 := by omega
      have hv : Hid (InR os ∧ val os = val xs * val ys ∧ os.length = i + n2) :=
        ⟨hm.out.2.1, by have := hm.out.2.2.1; rwa [List.take_of_length_le (by rw [Hn1.out]; exact Nat.le_refl _)] at this, hm.out.1⟩
      go_wp2_with fail
      refine (spec_trim w.heap.size _ (i + n2) (i + n2) os _ hv.out.2.2 (by omega) ho.out).mono ?_
      rintro e w' ⟨⟨m, rfl, ht⟩, rfl⟩
      obtain ⟨hcn, hvl⟩ := ht.canon hv.out.1
      have hmm : m ≤ i + n2 := by have := ht.1; rwa [hv.out.2.2] at this
      have hlm : (os.take m).length = m := by have := ht.1; simp; omega
      have hown := own_take ho.out hmm
      rw [← List.map_take] at hown
      have hend : Hid (CanEnd (val xs * val ys) (i + n2) w wr (.returned (.slice (some ⟨w.heap.size, 0, none⟩) m (i + n2)))) :=
        ⟨os.take m, _, _, by rw [hlm], hcn, hvl.trans hv.out.2.1, by rw [hlm]; exact hmm, by rw [hlm]; exact hown, hb.out⟩
      clear ht hcn hvl hlm hown
      go_wp2_with fail
      go_ret
      exact hend.out

end Go.Proofs.YtegclofijaoajaaGreat
namespace Go.Proofs.YtegclofijaoajaaGreat
set_option maxRecDepth 100000
open Go.RowKit

/-- What NatToInt returns. -/
def NatToIntIs (a : List Int) (v : Int) (b : Bool) : Prop := (b = true ∧ Ok a ∧ val a ≤ 9223372036854775807 ∧ v = val a) ∨ (b = false ∧ v = 0 ∧ ¬ (Ok a ∧ val a ≤ 9223372036854775807))
/-- What NatToInt ends in. -/
def ToIntEnd (xs : List Int) (e : Ending) : Prop := ∃ v b, e = .returned (.tuple #[.int .i64 v, .bool b]) ∧ NatToIntIs xs v b
def maxI : List Int := [854775807, 223372036, 9]
theorem maxI_canon : Canon maxI := ⟨by intro d hd; simp [maxI] at hd; omega, by decide⟩
theorem maxI_val : val maxI = 9223372036854775807 := by decide
set_option maxHeartbeats 800000 in
theorem spec_natToInt' (A1 : Option Addr) (n1 c1 : Nat) (xs : List Int) (w : World) (h1 : InI w A1 n1 xs) :
    Calls Tryz.prog 251 #[.slice A1 n1 c1] w fun e w' => ToIntEnd xs e ∧ Below w.heap.size w w' := by
  have H1 := Lib.hid h1
  clear h1
  go_enter Tryz.func251, Tryz.ntmps251
  go_wp2_with fail
  refine (spec_natOk' A1 n1 c1 xs _ H1.out).mono ?_
  rintro e w' ⟨⟨b1, rfl, ho1⟩, rfl⟩
  cases b1
  · have hfin : Hid (NatToIntIs xs 0 false) := .inr ⟨rfl, rfl, fun h => by have := ho1.2 h.1; cases this⟩
    clear ho1
    go_wp2_with fail
    go_ret2
    exact ⟨⟨0, false, rfl, hfin.out⟩, Below.refl _ _⟩
  have k1 := Lib.hid (ho1.1 rfl)
  clear ho1
  go_wp2_with fail
  have hB : Below w.heap.size w (w.alloc (.cells #[.int .i64 854775807, .int .i64 223372036, .int .i64 9] 3)) := (Below.refl _ _).alloc (Nat.le_refl _) _
  have hrd : Reads (w.alloc (.cells #[.int .i64 854775807, .int .i64 223372036, .int .i64 9] 3)) (some ⟨w.heap.size, 0, none⟩) (maxI.map (.int .i64)) :=
    .inr ⟨w.heap.size, 0, rfl, by simp, cells_new w (maxI.map (.int .i64)) _⟩
  refine (spec_cmp A1 n1 c1 xs (some ⟨w.heap.size, 0, none⟩) 3 3 maxI _ (H1.out.below hB).canon ⟨rfl, by omega, hrd⟩ k1.out.1 maxI_canon).mono ?_
  rintro e w1 ⟨rfl, hb⟩
  have HB := Lib.hid (hB.trans (hb.mono hB.size))
  rw [maxI_val]
  clear hrd hB hb
  by_cases hbig : 9223372036854775807 < val xs
  · have hfin : Hid (NatToIntIs xs 0 false) := .inr ⟨rfl, rfl, fun h => by have := h.2; omega⟩
    rw [cmpV_gt hbig]
    clear hbig
    go_wp2_with fail
    go_ret2
    exact ⟨⟨0, false, rfl, hfin.out⟩, HB.out⟩
  have Hle := Lib.hid (show val xs ≤ 9223372036854775807 by omega)
  have hcm : cmpV (val xs) 9223372036854775807 ≤ 0 := by
    by_cases e : val xs = 9223372036854775807
    · rw [cmpV_eq e]; omega
    · rw [cmpV_lt (by omega)]; omega
  obtain ⟨cm, hcm2⟩ : ∃ cm, cm = cmpV (val xs) 9223372036854775807 := ⟨_, rfl⟩
  rw [← hcm2] at hcm ⊢
  clear hbig hcm2
  have Hn := Lib.hid H1.out.1
  have Hr := Lib.hid (H1.out.below HB.out).2.2.1
  have hn60 : n1 ≤ 60 := by have := k1.out.2; rw [Hn.out] at this; exact this
  go_wp2_with fail
  go_loop [4, 5] (fun x y => ∃ k : Nat, k ≤ n1 ∧ y = .int .i64 ((k : Int) - 1) ∧ x = .int .i64 (val (xs.drop k))) (fun _ y => (intOf y + 1).toNat)
  case atStart => exact ⟨n1, Nat.le_refl _, rfl, by rw [List.drop_eq_nil_of_le (by rw [Hn.out]; exact Nat.le_refl _)]; rfl⟩
  case round =>
    obtain ⟨k, hk, rfl, rfl⟩ := hrel
    by_cases h0 : k = 0
    · have hfin : Hid (NatToIntIs xs (val xs) true) := .inl ⟨rfl, k1.out, Hle.out, rfl⟩
      subst h0
      rw [List.drop_zero]
      go_wp2_with fail
      go_ret2
      exact ⟨⟨_, _, rfl, hfin.out⟩, HB.out⟩
    · obtain ⟨i, rfl⟩ : ∃ i, k = i + 1 := ⟨k - 1, by omega⟩
      have hix : i < xs.length := by rw [Hn.out]; omega
      obtain ⟨b1, o1, rfl, hbs1, hc1⟩ := Hr.out.at_ (by simp; omega)
      obtain ⟨x, hx⟩ : ∃ x, x = xs[i] := ⟨_, rfl⟩
      have g1 : w1.cell? ⟨b1, o1 + i, none⟩ = some (.int .i64 x) := (hc1 i (by simpa using hix)).trans (by simp [hx])
      have hsi : (((i + 1 : Nat) : Int) - 1) = (i : Int) := by omega
      rw [hsi]
      have hv := val_drop_at hix
      rw [← hx] at hv
      have hle := val_drop_le k1.out.1.1 i
      have hxr := k1.out.1.1 _ (List.getElem_mem hix)
      rw [← hx] at hxr
      obtain ⟨x0, x1⟩ := hxr
      have hnn := val_nonneg (k1.out.1.1.drop (i + 1))
      have hle2 := Hle.out
      obtain ⟨V, hV⟩ : ∃ V, V = val (xs.drop (i + 1)) := ⟨_, rfl⟩
      rw [← hV] at hv hnn ⊢
      have hsum : V * 1000000000 + x ≤ 9223372036854775807 := by omega
      have hnx : Hid (V * 1000000000 + x = val (xs.drop i)) := by unfold Hid; omega
      have hi0 : (0 : Int) ≤ (i : Int) := by omega
      have hi1 : (i : Int) < (n1 : Int) := by omega
      clear hc1 hx hsi hv hle hV h0
      go_wp2_with fail
      go_round
      case rel => exact ⟨i, by omega, rfl, congrArg (Value.int .i64) hnx.out⟩
      case measure => simp [intOf]
theorem spec_natToInt (A1 : Option Addr) (n1 c1 : Nat) (xs : List Int) (w : World) (h1 : InI w A1 n1 xs) :
    Calls Tryz.prog 251 #[.slice A1 n1 c1] w fun e w' => ∃ v b, e = .returned (.tuple #[.int .i64 v, .bool b]) ∧ NatToIntIs xs v b ∧ Below w.heap.size w w' :=
  (spec_natToInt' A1 n1 c1 xs w h1).mono fun _ _ ⟨⟨v, b, he, hi⟩, hb⟩ => ⟨v, b, he, hi, hb⟩

/-- What a division by one limb ends in. -/
def SmallEnd (t d : Int) (B : Nat) (w w' : World) (e : Ending) : Prop := ∃ r A c rest, e = .returned (.tuple #[.slice A r.length c, .int .i64 rest]) ∧ Canon r ∧ val r * d + rest = t ∧ 0 ≤ rest ∧ rest < d ∧ r.length ≤ B ∧ w'.ownsRow w.heap.size 3 1 (.slice A r.length c) r.length (r.map (.int .i64)) ∧ Below w.heap.size w w'
set_option maxHeartbeats 800000 in
theorem spec_small (A1 : Option Addr) (n1 c1 : Nat) (xs : List Int) (d : Int) (w : World) (h1 : xs.length = n1 ∧ n1 ≤ 1048576 ∧ Reads w A1 (xs.map (.int .i64))) (k1 : InR xs) (d0 : 1 ≤ d) (d1 : d ≤ 999999999) :
    Calls Tryz.prog 253 #[.slice A1 n1 c1, .int .i64 d] w fun e w' => SmallEnd (val xs) d n1 w w' e := by
  obtain ⟨i0, hi, hz0, hz1, hz2⟩ := info_parts Tryz.infoI
  obtain ⟨hn1, hb1, hr1⟩ := h1
  have Hn := Lib.hid hn1
  have Hr := Lib.hid hr1
  have K1 := Lib.hid k1
  clear hn1 hr1 k1
  go_enter Tryz.func253, Tryz.ntmps253
  go_wp2_with (refine wpList_make_full _ rfl _ _ 30 rfl w.heap.size 3 i0 (.int .i64 0) 1 Tryz.underlying30 hi hz0 hz1 _ _ _ _ n1 rfl rfl rfl rfl (by rw [hz2]; omega) (by unfold maxLen; omega) (Nat.le_refl _) ?_)
  intro w1 ho hg
  have hrep : (madeCells #[Value.int .i64 0] n1).toList = (List.replicate n1 (0 : Int)).map (.int .i64) := by simp [toList_madeCells_one]
  have O1 : Hid (w1.ownsRow w.heap.size 3 1 (.slice (some ⟨w.heap.size, 0, none⟩) n1 n1) n1 ((List.replicate n1 (0 : Int)).map (.int .i64))) := by
    unfold Hid; rw [← hrep]; simpa using ho
  have B1 := Lib.hid ((Below.refl w.heap.size w).grown hg (Nat.le_refl _) (fun k hk => by cases hk))
  have M1 : Hid (SmallAt xs d n1 0 (List.replicate n1 0)) :=
    ⟨by simp [Hn.out], fun d hd => by rw [(List.mem_replicate.1 hd).2]; decide, by rw [List.drop_eq_nil_of_le (by simp), List.drop_eq_nil_of_le (by rw [Hn.out]; exact Nat.le_refl _)]; simp [val], by omega, by omega⟩
  clear ho hg hrep
  go_wp2_with fail
  go_loopw [7, 8] (fun x y wr => ∃ (k : Nat) (rest : Int) (os : List Int), k ≤ n1 ∧ y = .int .i64 ((k : Int) - 1) ∧ x = .int .i64 rest ∧ 0 ≤ rest ∧ rest < d ∧ Hid (SmallAt xs d k rest os) ∧ Hid (wr.ownsRow w.heap.size 3 1 (.slice (some ⟨w.heap.size, 0, none⟩) n1 n1) n1 (os.map (.int .i64))) ∧ Hid (Below w.heap.size w wr)) (fun _ y _ => (intOf y + 1).toNat)
  case atStart => exact ⟨n1, 0, _, Nat.le_refl _, rfl, rfl, by omega, by omega, M1, O1, B1⟩
  case round =>
    obtain ⟨k, rest, os, hk, rfl, rfl, r0, r1, hs, ho, hb⟩ := hrel
    by_cases h0 : k = 0
    · subst h0
      have hv : Hid (InR os ∧ val os * d + rest = val xs ∧ os.length = n1) := ⟨hs.out.2.1, by have := hs.out.2.2.1; rwa [List.drop_zero, List.drop_zero] at this, hs.out.1.trans Hn.out⟩
      go_wp2_with fail
      refine (spec_trim w.heap.size _ n1 n1 os _ hv.out.2.2 (by omega) ho.out).mono ?_
      rintro e w' ⟨⟨m, rfl, ht⟩, rfl⟩
      obtain ⟨hcn, hvl⟩ := ht.canon hv.out.1
      have hmm : m ≤ n1 := by have := ht.1; rwa [hv.out.2.2] at this
      have hlm : (os.take m).length = m := by have := ht.1; simp; omega
      have hown := own_take ho.out hmm
      rw [← List.map_take] at hown
      have hend : Hid (SmallEnd (val xs) d n1 w wr (.returned (.tuple #[.slice (some ⟨w.heap.size, 0, none⟩) m n1, .int .i64 rest]))) :=
        ⟨os.take m, _, _, rest, by rw [hlm], hcn, by rw [hvl]; exact hv.out.2.1, r0, r1, by rw [hlm]; exact hmm, by rw [hlm]; exact hown, hb.out⟩
      clear ht hcn hvl hlm hown
      go_wp2_with fail
      go_ret2
      exact hend.out
    · obtain ⟨i, rfl⟩ : ∃ i, k = i + 1 := ⟨k - 1, by omega⟩
      obtain ⟨wo, rfl⟩ : ∃ wo : World, wo = wr := ⟨_, rfl⟩
      have hix : i < xs.length := by rw [Hn.out]; omega
      obtain ⟨b1, o1, rfl, hbs1, hc1⟩ := (Hr.out.below hb.out).at_ (by simp; omega)
      obtain ⟨x, hx⟩ : ∃ x, x = xs[i] := ⟨_, rfl⟩
      have g1 : wo.cell? ⟨b1, o1 + i, none⟩ = some (.int .i64 x) := (hc1 i (by simpa using hix)).trans (by simp [hx])
      have hsi : (((i + 1 : Nat) : Int) - 1) = (i : Int) := by omega
      rw [hsi]
      have hxr := K1.out _ (List.getElem_mem hix)
      rw [← hx] at hxr
      obtain ⟨x0, x1⟩ := hxr
      obtain ⟨hnx, m0, m1⟩ := hs.out.step hix hx x0 x1 d0 d1
      have Hnx := Lib.hid hnx
      have hio : i < os.length := by rw [hs.out.1]; exact hix
      obtain ⟨o, hoo⟩ : ∃ o, o = os[i] := ⟨_, rfl⟩
      have g3 : wo.cell? ⟨w.heap.size, i, none⟩ = some (.int .i64 o) := by
        rw [ho.out.cellAt i (by omega)]; simp [hio, hoo]
      have hfr := ho.out.frozenAt i
      have hst := ho.out.stored i (.int .i64 ((rest * 1000000000 + x) / d))
      rw [map_set_int] at hst
      have ho2 := Lib.hid hst.1
      have hb2 := Lib.hid (below_marked hb.out ho.out hst.2 (Nat.le_refl _) hb.out.size)
      have hi0 : (0 : Int) ≤ (i : Int) := by omega
      have hi1 : (i : Int) < (n1 : Int) := by omega
      clear hc1 hx hsi hnx hoo hst h0
      go_wp2_with fail
      go_roundw
      case rel => exact ⟨i, _, _, by omega, rfl, rfl, m0, m1, Hnx, ho2, hb2⟩
      case measure => simp [intOf]
end Go.Proofs.YtegclofijaoajaaGreat
namespace Go.Proofs.YtegclofijaoajaaGreat
set_option maxRecDepth 100000
open Go.RowKit

def DigEnd (R D : Int) (e : Ending) : Prop := ∃ q, e = .returned (.int .i64 q) ∧ q * D ≤ R ∧ R < (q + 1) * D ∧ 0 ≤ q ∧ q ≤ 999999999

theorem dig_start {R D P x t : Int} (hP : 0 < P) (e1 : x * P ≤ R) (e2 : R < (x + 1) * P) (e3 : t * P ≤ D) (e4 : D ≤ (t + 1) * P) (x0 : 0 ≤ x) (t1 : 1 ≤ t) (hlt : R < 1000000000 * D) (hD : 0 < D) :
    Dig R D (x / (t + 1)) (if x / t < 999999999 then x / t else 999999999) := by
  have g1 := (guess (q := 0) hP e1 e2 e3 e4 x0 t1).1
  have g2 := lt_guess hP e2 e3 x0 t1
  have g3 := (guess (q := 0) hP e1 e2 e3 e4 x0 t1).2.2
  have up : ∀ hi, R < (hi + 1) * D → x / (t + 1) ≤ hi := fun hi h => by
    have : x / (t + 1) < hi + 1 := Int.lt_of_mul_lt_mul_right (a := D) (by omega) (by omega)
    omega
  split
  · exact ⟨g1, g2, g3, up _ g2, by omega⟩
  · exact ⟨g1, by omega, g3, up _ (by omega), by omega⟩

set_option maxHeartbeats 1600000 in
theorem spec_digit (A1 : Option Addr) (n1 c1 : Nat) (rs : List Int) (A2 : Option Addr) (n c2 : Nat) (bs : List Int) (w : World) (h1 : rs.length = n1 ∧ n1 ≤ 1000000 ∧ Reads w A1 (rs.map (.int .i64))) (h2 : bs.length = n ∧ n ≤ 1000000 ∧ Reads w A2 (bs.map (.int .i64)))
    (k1 : Canon rs) (k2 : Canon bs) (hb0 : 0 < val bs) (hle : val bs ≤ val rs) (hlt : val rs < 1000000000 * val bs) :
    Calls Tryz.prog 254 #[.slice A1 n1 c1, .slice A2 n c2] w fun e w' => DigEnd (val rs) (val bs) e ∧ Below w.heap.size w w' := by
  obtain ⟨hn1, hb1, hr1⟩ := h1
  obtain ⟨hn2, hb2, hr2⟩ := h2
  have hnpos : 0 < n := by
    rcases Nat.eq_zero_or_pos n with e | e
    · rw [List.eq_nil_of_length_eq_zero (hn2.trans e)] at hb0; simp [val] at hb0
    · exact e
  obtain ⟨m, rfl⟩ : ∃ m, n = m + 1 := ⟨n - 1, by omega⟩
  have hge : m + 1 ≤ n1 := by have := longer_ge k2 k1.1 hle; omega
  have hmx : m < rs.length := by omega
  have hmb : m < bs.length := by omega
  obtain ⟨x, hx⟩ : ∃ x, x = val (rs.drop m) := ⟨_, rfl⟩
  obtain ⟨t, ht⟩ : ∃ t, t = bs[m] := ⟨_, rfl⟩
  obtain ⟨a, ha⟩ : ∃ a, a = rs[m] := ⟨_, rfl⟩
  have htd : val (bs.drop m) = t := by
    rw [val_drop_at hmb, List.drop_eq_nil_of_le (by omega), ← ht]; simp [val]
  have ht1 : 1 ≤ t := by
    have hr := k2.1 _ (List.getElem_mem hmb)
    have hl := last_at hn2
    have : t ≠ 0 := fun e => k2.2 (by rw [hl, ← ht, e])
    rw [← ht] at hr; omega
  have ht2 : t ≤ 999999999 := by have hr := k2.1 _ (List.getElem_mem hmb); rw [← ht] at hr; exact hr.2
  have har := k1.1 _ (List.getElem_mem hmx)
  rw [← ha] at har
  obtain ⟨a0, a1⟩ := har
  have tb := take_bd k2.1 m (by omega)
  have tr := take_bd k1.1 m (by omega)
  have sb := val_split bs m (by omega)
  have sr := val_split rs m (by omega)
  rw [htd] at sb
  rw [← hx] at sr
  have hP := pw_pos m
  have hx0 : 0 ≤ x := by rw [hx]; exact val_nonneg (k1.1.drop m)
  have e1 : x * pw m ≤ val rs := by rw [Int.mul_comm]; omega
  have e2 : val rs < (x + 1) * pw m := by rw [Int.add_mul, Int.mul_comm x]; omega
  have e3 : t * pw m ≤ val bs := by rw [Int.mul_comm]; omega
  have e4 : val bs ≤ (t + 1) * pw m := by rw [Int.add_mul, Int.mul_comm t]; omega
  have hD := dig_start hP e1 e2 e3 e4 hx0 ht1 hlt hb0
  have hub : n1 ≤ m + 1 + 1 := by
    have h1 := val_lt k2.1
    rw [hn2] at h1
    have h2 := short_of (k := m + 1 + 1) k1 (by rw [pw]; omega)
    rw [hn1] at h2; exact h2
  obtain ⟨o2, c9, rfl, hbs2, hc2⟩ := hr2.at_ (by simp; omega)
  have gt2 : w.cell? ⟨o2, c9 + m, none⟩ = some (.int .i64 t) := (hc2 m (by simpa using hmb)).trans (by simp [ht])
  obtain ⟨o1, c8, rfl, hbs1, hc1⟩ := hr1.at_ (by simp; omega)
  have ga1 : w.cell? ⟨o1, c8 + m, none⟩ = some (.int .i64 a) := (hc1 m (by simpa using hmx)).trans (by simp [ha])
  have hsub : ((m + 1 : Nat) : Int) - 1 = (m : Int) := by omega
  have hm0 : (0 : Int) ≤ (m : Int) := by omega
  have Hn1 := Lib.hid hn1
  have Hn2 := Lib.hid hn2
  have Hr1 := Lib.hid hr1
  have Hr2 := Lib.hid hr2
  have K1 := Lib.hid k1
  have K2 := Lib.hid k2
  have HP := Lib.hid hb0
  by_cases h9 : n1 = m + 1
  · have hxa : x = a := by rw [hx, val_drop_at hmx, List.drop_eq_nil_of_le (show rs.length ≤ m + 1 by omega), ← ha]; simp [val]
    subst hxa
    have HD := Lib.hid hD
    subst h9
    have hng : ¬ ((m : Int) + 1 < (m : Int) + 1) := by omega
    by_cases hmn : x / t < 999999999
    all_goals
      have HD1 : Hid (Dig (val rs) (val bs) (x / (t + 1)) (if x / t < 999999999 then x / t else 999999999)) := HD
      first | rw [if_pos hmn] at HD1 | rw [if_neg hmn] at HD1
      clear hn1 hn2 hr1 hr2 k1 k2 hb0 hD hx ht ha tb tr sb sr e1 e2 e3 e4 hc1 hc2 htd hle hlt HD
      go_enter Tryz.func254, Tryz.ntmps254
      go_wp2_with fail
      go_loopw [7, 8] (fun x y wr => ∃ (lo hi : Int), x = .int .i64 lo ∧ y = .int .i64 hi ∧ 0 ≤ lo ∧ lo ≤ hi ∧ hi ≤ 999999999 ∧ Hid (Dig (val rs) (val bs) lo hi) ∧ Hid (Below w.heap.size w wr)) (fun x y _ => (intOf y - intOf x).toNat)
      case atStart => exact ⟨_, _, rfl, rfl, HD1.out.2.2.1, HD1.out.2.2.2.1, HD1.out.2.2.2.2, HD1, Below.refl _ _⟩
      case round =>
        obtain ⟨lo, hi, rfl, rfl, l0, l1, l2, hd, hb⟩ := hrel
        by_cases hlh : lo < hi
        · obtain ⟨q, hq⟩ : ∃ q, q = (lo + hi + 1) / 2 := ⟨_, rfl⟩
          have q1 : lo < q := by omega
          have q2 : q ≤ hi := by omega
          have Hq := Lib.hid hq
          clear hq
          go_wp2_with fail
          rw [← Hq.out]
          refine (spec_natOf q _ (by omega)).mono ?_
          rintro e w1 ⟨qs, v, rfl, hof, ⟨_, ho⟩, hb1⟩
          obtain ⟨A3, c3, rfl⟩ := own_slice ho
          have hqv : val qs = q := by rw [hof.2, if_neg (by omega)]
          have hql := short_of (k := 1) hof.1 (by rw [hqv]; simp only [pw]; omega)
          have HQ : Hid (InR qs ∧ val qs = q) := ⟨hof.1.1, hqv⟩
          obtain ⟨N, hN⟩ : ∃ N, N = qs.length := ⟨_, rfl⟩
          rw [← hN] at ho hql ⊢
          have HN := Lib.hid hN.symm
          have HO := Lib.hid (Reads.of_own ho)
          have HB1 := Lib.hid (hb.out.trans (hb1.mono hb.out.size))
          clear hof ho hqv hN hb1
          go_wp2_with fail
          refine (spec_mul _ (m + 1) c2 bs A3 N c3 qs _ ⟨Hn2.out, by omega, Hr2.out.below HB1.out⟩ ⟨HN.out, by omega, HO.out⟩ K2.out.1 HQ.out.1).mono ?_
          rintro e w2 ⟨pr, A4, c4, rfl, hpc, hpv, hpl, hpo, hb2⟩
          have HPC : Hid (Canon pr ∧ val pr = val bs * q) := ⟨hpc, by rw [hpv, HQ.out.2]⟩
          obtain ⟨N2, hN2⟩ : ∃ N2, N2 = pr.length := ⟨_, rfl⟩
          rw [← hN2] at hpo hpl ⊢
          have HN2 := Lib.hid hN2.symm
          have HO2 := Lib.hid (Reads.of_own hpo)
          have HB2 := Lib.hid (HB1.out.trans (hb2.mono HB1.out.size))
          clear hpc hpv hpo hN2 hb2
          go_wp2_with fail
          refine (spec_cmp A4 N2 c4 pr _ _ c1 rs _ ⟨HN2.out, by omega, HO2.out⟩ ⟨Hn1.out, by omega, Hr1.out.below HB2.out⟩ HPC.out.1 K1.out).mono ?_
          rintro e w3 ⟨rfl, hb3⟩
          have HB3 := Lib.hid (HB2.out.trans (hb3.mono HB2.out.size))
          rw [HPC.out.2, Int.mul_comm]
          clear hb3
          by_cases hqr : q * val bs ≤ val rs
          · have hnx := Lib.hid (hd.out.up q1 q2 hqr)
            have hcm : cmpV (q * val bs) (val rs) ≤ 0 := by
              by_cases e : q * val bs = val rs
              · rw [cmpV_eq e]; omega
              · rw [cmpV_lt (by omega)]; omega
            obtain ⟨cm, hcm2⟩ : ∃ cm, cm = cmpV (q * val bs) (val rs) := ⟨_, rfl⟩
            rw [← hcm2] at hcm ⊢
            clear hqr hcm2
            go_wp2_with fail
            go_roundw
            case rel => exact ⟨q, hi, rfl, rfl, by omega, by omega, by omega, hnx, HB3⟩
            case measure => simp [intOf]; omega
          · have hnx := Lib.hid (hd.out.down q1 q2 (by omega))
            rw [cmpV_gt (by omega)]
            clear hqr
            go_wp2_with fail
            go_roundw
            case rel => exact ⟨lo, q - 1, rfl, rfl, by omega, by omega, by omega, hnx, HB3⟩
            case measure => simp [intOf]; omega
        · obtain rfl : lo = hi := by omega
          have hfin : Hid (DigEnd (val rs) (val bs) (.returned (.int .i64 lo))) := ⟨lo, rfl, hd.out.1, hd.out.2.1, l0, l2⟩
          go_wp2_with fail
          go_ret
          exact ⟨hfin.out, hb.out⟩
  · obtain rfl : n1 = m + 1 + 1 := by omega
    have hmx2 : m + 1 < rs.length := by omega
    obtain ⟨a2, ha2⟩ : ∃ a2, a2 = rs[m + 1] := ⟨_, rfl⟩
    have har2 := k1.1 _ (List.getElem_mem hmx2)
    rw [← ha2] at har2
    obtain ⟨a20, a21⟩ := har2
    have ga2 : w.cell? ⟨o1, c8 + (m + 1), none⟩ = some (.int .i64 a2) := (hc1 (m + 1) (by simpa using hmx2)).trans (by simp [ha2])
    have hxa : x = a + a2 * 1000000000 := by
      rw [hx, val_drop_at hmx, val_drop_at hmx2, List.drop_eq_nil_of_le (show rs.length ≤ m + 1 + 1 by omega), ← ha, ← ha2]; simp only [val]; omega
    subst hxa
    have HD := Lib.hid hD
    have hm1 : (0 : Int) ≤ (m : Int) + 1 := by omega
    have hm2 : (m : Int) + 1 < (m : Int) + 1 + 1 := by omega
    have hm3 : ((m : Int) + 1).toNat = m + 1 := by omega
    by_cases hmn : (a + a2 * 1000000000) / t < 999999999
    all_goals
      have HD1 : Hid (Dig (val rs) (val bs) ((a + a2 * 1000000000) / (t + 1)) (if (a + a2 * 1000000000) / t < 999999999 then (a + a2 * 1000000000) / t else 999999999)) := HD
      first | rw [if_pos hmn] at HD1 | rw [if_neg hmn] at HD1
      clear hn1 hn2 hr1 hr2 k1 k2 hb0 hD hx ht ha ha2 tb tr sb sr e1 e2 e3 e4 hc1 hc2 htd hle hlt HD
      go_enter Tryz.func254, Tryz.ntmps254
      go_wp2_with fail
      go_loopw [7, 8] (fun x y wr => ∃ (lo hi : Int), x = .int .i64 lo ∧ y = .int .i64 hi ∧ 0 ≤ lo ∧ lo ≤ hi ∧ hi ≤ 999999999 ∧ Hid (Dig (val rs) (val bs) lo hi) ∧ Hid (Below w.heap.size w wr)) (fun x y _ => (intOf y - intOf x).toNat)
      case atStart => exact ⟨_, _, rfl, rfl, HD1.out.2.2.1, HD1.out.2.2.2.1, HD1.out.2.2.2.2, HD1, Below.refl _ _⟩
      case round =>
        obtain ⟨lo, hi, rfl, rfl, l0, l1, l2, hd, hb⟩ := hrel
        by_cases hlh : lo < hi
        · obtain ⟨q, hq⟩ : ∃ q, q = (lo + hi + 1) / 2 := ⟨_, rfl⟩
          have q1 : lo < q := by omega
          have q2 : q ≤ hi := by omega
          have Hq := Lib.hid hq
          clear hq
          go_wp2_with fail
          rw [← Hq.out]
          refine (spec_natOf q _ (by omega)).mono ?_
          rintro e w1 ⟨qs, v, rfl, hof, ⟨_, ho⟩, hb1⟩
          obtain ⟨A3, c3, rfl⟩ := own_slice ho
          have hqv : val qs = q := by rw [hof.2, if_neg (by omega)]
          have hql := short_of (k := 1) hof.1 (by rw [hqv]; simp only [pw]; omega)
          have HQ : Hid (InR qs ∧ val qs = q) := ⟨hof.1.1, hqv⟩
          obtain ⟨N, hN⟩ : ∃ N, N = qs.length := ⟨_, rfl⟩
          rw [← hN] at ho hql ⊢
          have HN := Lib.hid hN.symm
          have HO := Lib.hid (Reads.of_own ho)
          have HB1 := Lib.hid (hb.out.trans (hb1.mono hb.out.size))
          clear hof ho hqv hN hb1
          go_wp2_with fail
          refine (spec_mul _ (m + 1) c2 bs A3 N c3 qs _ ⟨Hn2.out, by omega, Hr2.out.below HB1.out⟩ ⟨HN.out, by omega, HO.out⟩ K2.out.1 HQ.out.1).mono ?_
          rintro e w2 ⟨pr, A4, c4, rfl, hpc, hpv, hpl, hpo, hb2⟩
          have HPC : Hid (Canon pr ∧ val pr = val bs * q) := ⟨hpc, by rw [hpv, HQ.out.2]⟩
          obtain ⟨N2, hN2⟩ : ∃ N2, N2 = pr.length := ⟨_, rfl⟩
          rw [← hN2] at hpo hpl ⊢
          have HN2 := Lib.hid hN2.symm
          have HO2 := Lib.hid (Reads.of_own hpo)
          have HB2 := Lib.hid (HB1.out.trans (hb2.mono HB1.out.size))
          clear hpc hpv hpo hN2 hb2
          go_wp2_with fail
          refine (spec_cmp A4 N2 c4 pr _ _ c1 rs _ ⟨HN2.out, by omega, HO2.out⟩ ⟨Hn1.out, by omega, Hr1.out.below HB2.out⟩ HPC.out.1 K1.out).mono ?_
          rintro e w3 ⟨rfl, hb3⟩
          have HB3 := Lib.hid (HB2.out.trans (hb3.mono HB2.out.size))
          rw [HPC.out.2, Int.mul_comm]
          clear hb3
          by_cases hqr : q * val bs ≤ val rs
          · have hnx := Lib.hid (hd.out.up q1 q2 hqr)
            have hcm : cmpV (q * val bs) (val rs) ≤ 0 := by
              by_cases e : q * val bs = val rs
              · rw [cmpV_eq e]; omega
              · rw [cmpV_lt (by omega)]; omega
            obtain ⟨cm, hcm2⟩ : ∃ cm, cm = cmpV (q * val bs) (val rs) := ⟨_, rfl⟩
            rw [← hcm2] at hcm ⊢
            clear hqr hcm2
            go_wp2_with fail
            go_roundw
            case rel => exact ⟨q, hi, rfl, rfl, by omega, by omega, by omega, hnx, HB3⟩
            case measure => simp [intOf]; omega
          · have hnx := Lib.hid (hd.out.down q1 q2 (by omega))
            rw [cmpV_gt (by omega)]
            clear hqr
            go_wp2_with fail
            go_roundw
            case rel => exact ⟨lo, q - 1, rfl, rfl, by omega, by omega, by omega, hnx, HB3⟩
            case measure => simp [intOf]; omega
        · obtain rfl : lo = hi := by omega
          have hfin : Hid (DigEnd (val rs) (val bs) (.returned (.int .i64 lo))) := ⟨lo, rfl, hd.out.1, hd.out.2.1, l0, l2⟩
          go_wp2_with fail
          go_ret
          exact ⟨hfin.out, hb.out⟩
end Go.Proofs.YtegclofijaoajaaGreat
