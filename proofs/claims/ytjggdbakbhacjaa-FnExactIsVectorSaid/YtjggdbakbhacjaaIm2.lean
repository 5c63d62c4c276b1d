/- Contracts of the program's natural numbers: sums, differences, products, the way back to int. -/
import Derived.Test.YtjggdbakbhacjaaIm1
namespace Go.Proofs.Ytjggdbakbhacjaa
set_option maxRecDepth 100000
open Go.RowKit

set_option maxHeartbeats 800000 in
theorem impl_trim (base : Nat) (A : Option Addr) (n c : Nat) (xs : List Int) (w : World) (hn : xs.length = n) (hb : n ≤ 4194304) (ho : w.ownsRow base 3 1 (.slice A n c) n (xs.map (.int .i64))) :
    Calls Try.prog 133 #[.slice A n c] w fun e w' => (∃ m, e = .returned (.slice A m c) ∧ Trimmed xs m) ∧ w = w' := by
  have hcap := (own_cap ho).1
  have Hn := Lib.hid hn
  have Ho := Lib.hid ho
  by_cases h0 : n = 0
  · have hfin : Hid (Trimmed xs 0) := ⟨Nat.zero_le _, fun j hj _ => absurd hj (by rw [hn]; omega), by simp⟩
    have hA : (A = none ∧ c = 0) ∨ ∃ g, A = some ⟨g, 0, none⟩ := by
      rcases ho.2 with ⟨hv, _⟩ | ⟨g, _, _, hv, _⟩
      · cases hv; exact .inl ⟨rfl, rfl⟩
      · cases hv; exact .inr ⟨g, rfl⟩
    clear hn ho
    subst h0
    rcases hA with ⟨rfl, rfl⟩ | ⟨g, rfl⟩
    all_goals
      go_enter Try.func133, Try.ntmps133
      go_wp2_with fail
      refine wp_loop_rounds 1 ?_
      rw [rounds_succ]
      go_wp2_with fail
    · go_ret
      exact ⟨⟨0, rfl, hfin.out⟩, rfl⟩
    · go_ret
      exact ⟨⟨0, rfl, hfin.out⟩, rfl⟩
  obtain ⟨g, rfl, _, hgs⟩ := own_at ho (by omega)
  clear hn ho
  go_enter Try.func133, Try.ntmps133
  go_wp2_with fail
  go_loop [3] (fun x => ∃ m : Nat, m ≤ n ∧ x = .int .i64 m ∧ Hid (ZeroFrom xs m)) (fun x => (intOf x).toNat)
  case atStart => exact ⟨n, Nat.le_refl _, rfl, fun j hj hle => absurd hj (by rw [Hn.out]; omega)⟩
  case round =>
    obtain ⟨m, hm, rfl, hz⟩ := hrel
    by_cases hm0 : m = 0
    · have hfin : Hid (Trimmed xs 0) := ⟨Nat.zero_le _, by rw [← hm0]; exact hz.out, by simp⟩
      subst hm0
      go_wp2_with fail
      go_ret
      exact ⟨⟨0, rfl, hfin.out⟩, rfl⟩
    · obtain ⟨k, rfl⟩ : ∃ k, m = k + 1 := ⟨m - 1, by omega⟩
      have hkx : k < xs.length := by rw [Hn.out]; omega
      obtain ⟨z, hzk⟩ : ∃ z, z = xs[k] := ⟨_, rfl⟩
      have hcell : w.cell? ⟨g, k, none⟩ = some (.int .i64 z) := by
        rw [Ho.out.cellAt k (by omega)]; simp [hzk, hkx]
      by_cases hz0 : z = 0
      · have hnx : Hid (ZeroFrom xs k) := zeroFrom_pred hz.out hkx (by rw [← hzk]; exact hz0)
        subst hz0
        clear hzk hm0
        go_wp2_with fail
        go_round
        case rel => exact ⟨k, by omega, by go_num, hnx⟩
        case measure => simp [intOf]
      · have hfin : Hid (Trimmed xs (k + 1)) := ⟨by omega, hz.out, by rw [take_last hkx, ← hzk]; simpa using hz0⟩
        have hz1 : (z == 0) = false := by simpa using hz0
        clear hzk hm0 hz0
        go_wp2_with fail
        go_ret
        exact ⟨⟨k + 1, rfl, hfin.out⟩, rfl⟩

theorem impl_limited (A : Option Addr) (n c : Nat) (w : World) (hb : n ≤ 4194304) :
    Calls Try.prog 132 #[.slice A n c] w fun e w' => ((60 < n ∧ e = .returned (.slice none 0 0)) ∨ (n ≤ 60 ∧ e = .returned (.slice A n c))) ∧ w = w' := by
  by_cases h60 : 60 < (n : Int)
  · go_enter Try.func132, Try.ntmps132
    go_wp2_with fail
    go_ret
    exact ⟨.inl ⟨by omega, rfl⟩, rfl⟩
  · go_enter Try.func132, Try.ntmps132
    go_wp2_with fail
    go_ret
    exact ⟨.inr ⟨by omega, rfl⟩, rfl⟩

theorem impl_limbAt (A : Option Addr) (n c : Nat) (xs : List Int) (k : Nat) (w : World) (hn : xs.length = n) (hb : n ≤ 1048576) (hr : Reads w A (xs.map (.int .i64))) :
    Calls Try.prog 131 #[.slice A n c, .int .i64 k] w fun e w' => e = .returned (.int .i64 (lim xs k)) ∧ w = w' := by
  have hi0 : (0 : Int) ≤ (k : Int) := by omega
  by_cases hk : k < n
  · have hix : k < xs.length := by omega
    obtain ⟨b, o, rfl, hbs, hc⟩ := hr.at_ (by simp; omega)
    have l1 : lim xs k = xs[k] := by unfold lim; rw [List.getD_eq_getElem?_getD, List.getElem?_eq_getElem hix]; rfl
    obtain ⟨x, hx⟩ : ∃ x, x = xs[k] := ⟨_, rfl⟩
    have g1 : w.cell? ⟨b, o + k, none⟩ = some (.int .i64 x) := (hc k (by simpa using hix)).trans (by simp [hx])
    have hi1 : (k : Int) < (n : Int) := by omega
    have hfin : Hid (lim xs k = x) := by unfold Hid; rw [l1, hx]
    clear hc hx l1 hr hn
    go_enter Try.func131, Try.ntmps131
    go_wp2_with fail
    go_ret
    exact ⟨ret_int hfin.out.symm, rfl⟩
  · have hfin : Hid (lim xs k = 0) := by unfold Hid lim; rw [List.getD_eq_getElem?_getD, List.getElem?_eq_none (by omega)]; rfl
    have hi1 : (n : Int) ≤ (k : Int) := by omega
    clear hr hn
    go_enter Try.func131, Try.ntmps131
    go_wp2_with fail
    go_ret
    exact ⟨ret_int hfin.out.symm, rfl⟩

set_option maxHeartbeats 400000 in
theorem impl_valueOf (A1 : Option Addr) (n1 c1 : Nat) (xs : List Int) (w : World) (hn : xs.length = n1) (hb : n1 ≤ 1048576) (hr : Reads w A1 (xs.map (.int .i64))) (k1 : InR xs) (hle : val xs ≤ 9223372036854775807) :
    Calls Try.prog 137 #[.slice A1 n1 c1] w fun e w' => e = .returned (.int .i64 (val xs)) ∧ w = w' := by
  have Hn := Lib.hid hn
  have Hr := Lib.hid hr
  have K1 := Lib.hid k1
  have Hle := Lib.hid hle
  clear hn hr k1 hle
  go_enter Try.func137, Try.ntmps137
  go_wp2_with fail
  go_loop [3, 4, 7] (fun x _ y => ∃ k : Nat, k ≤ n1 ∧ y = .int .i64 (k : Int) ∧ x = .int .i64 (val (xs.drop (n1 - k)))) (fun _ _ y => n1 - (intOf y).toNat)
  case atStart => exact ⟨0, Nat.zero_le _, rfl, by rw [List.drop_eq_nil_of_le (by rw [Hn.out]; exact Nat.le_refl _)]; rfl⟩
  case round =>
    obtain ⟨k, hk, rfl, rfl⟩ := hrel
    by_cases h0 : k = n1
    · subst h0
      rw [Nat.sub_self, List.drop_zero]
      go_wp2_with fail
      go_ret
      exact ⟨rfl, rfl⟩
    · obtain ⟨i, hi⟩ : ∃ i, n1 - k = i + 1 := ⟨n1 - k - 1, by omega⟩
      rw [hi]
      have hix : i < xs.length := by rw [Hn.out]; omega
      obtain ⟨b1, o1, rfl, hbs1, hc1⟩ := Hr.out.at_ (by simp; omega)
      obtain ⟨x, hx⟩ : ∃ x, x = xs[i] := ⟨_, rfl⟩
      have g1 : w.cell? ⟨b1, o1 + i, none⟩ = some (.int .i64 x) := (hc1 i (by simpa using hix)).trans (by simp [hx])
      have hsi : (n1 : Int) - 1 - (k : Int) = (i : Int) := by omega
      have hv := val_drop_at hix
      rw [← hx] at hv
      have hle := val_drop_le K1.out i
      have hxr := K1.out _ (List.getElem_mem hix)
      rw [← hx] at hxr
      obtain ⟨x0, x1⟩ := hxr
      have hnn := val_nonneg (K1.out.drop (i + 1))
      have hle2 := Hle.out
      obtain ⟨V, hV⟩ : ∃ V, V = val (xs.drop (i + 1)) := ⟨_, rfl⟩
      rw [← hV] at hv hnn ⊢
      have hsum : V * 1000000000 + x ≤ 9223372036854775807 := by omega
      have hnx : Hid (V * 1000000000 + x = val (xs.drop (n1 - (k + 1)))) := by unfold Hid; rw [show n1 - (k + 1) = i by omega]; omega
      have hi0 : (0 : Int) ≤ (i : Int) := by omega
      have hi1 : (i : Int) < (n1 : Int) := by omega
      have hk1 : (k : Int) < (n1 : Int) := by omega
      clear hc1 hx hv hle hV h0 hi
      go_wp2_with fail
      go_round
      case rel => exact ⟨k + 1, by omega, by go_num, congrArg (Value.int .i64) hnx.out⟩
      case measure => simp [intOf]; omega

theorem maxOf_val {r : List Int} (h : NatOfIs 9223372036854775807 r) : Canon r ∧ val r = 9223372036854775807 := ⟨h.1, by rw [h.2]; rfl⟩
end Go.Proofs.Ytjggdbakbhacjaa
