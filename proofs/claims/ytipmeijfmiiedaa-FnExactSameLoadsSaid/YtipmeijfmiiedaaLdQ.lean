/- Loads compared, by the program and by the model. -/
import Derived.Test.YtipmeijfmiiedaaLdD
import Derived.Test.YtipmeijfmiiedaaLpS
import Derived.Test.YtipmeijfmiiedaaStO4
import Derived.BigQuiet
namespace Go.Proofs.Ytipmeijfmiiedaa
set_option maxRecDepth 100000
open Go.RowKit

set_option maxHeartbeats 1600000 in
theorem equal_ints (A1 : Option Addr) (n1 c1 : Nat) (xs : List Int) (A2 : Option Addr) (n2 c2 : Nat) (ys : List Int) (w : World) (h1 : InI w A1 n1 xs) (h2 : InI w A2 n2 ys) :
    Calls Try.prog 67 #[.slice A1 n1 c1, .slice A2 n2 c2] w fun e w' => YesEnd (xs = ys) w w' e := by
  have hm1 := h1.2.1
  have hm2 := h2.2.1
  by_cases hne : n1 = n2
  · subst hne
    have HL1 : Hid (xs.length = n1) := h1.1
    have HL2 : Hid (ys.length = n1) := h2.1
    have H1 := Lib.hid h1
    have H2 := Lib.hid h2
    have hbq : ((n1 : Int) != (n1 : Int)) = false := by simp
    clear h1 h2
    go_enter Try.func67, Try.ntmps67
    go_wp2_with fail
    go_loopw [5, 13] (fun _ y wr => ∃ k : Nat, k ≤ n1 ∧ y = .int .i64 k ∧ Hid (xs.take k = ys.take k) ∧ Hid (Below w.heap.size w wr)) (fun _ y _ => n1 - (intOf y).toNat)
    case atStart => exact ⟨0, Nat.zero_le _, rfl, by simp [Hid], Below.refl _ _⟩
    case round =>
      obtain ⟨k, hk, rfl, heq, hb⟩ := hrel
      by_cases hlt : k < n1
      · obtain ⟨b1, o1, x, rfl, hx, e0, _, _, _⟩ := (H1.out.below hb.out).get hlt
        obtain ⟨b2, o2, y, rfl, hy, d0, _, _, _⟩ := (H2.out.below hb.out).get hlt
        have hk0 : (0 : Int) ≤ (k : Int) := by omega
        have hk1 : (k : Int) < (n1 : Int) := by omega
        have HX := Lib.hid hx
        have HY := Lib.hid hy
        have HB : Hid (∀ q, Below w.heap.size w (wr.drewN q)) := fun q => below_drewN hb.out q
        clear hx hy
        by_cases hxy : x = y
        · have hnx : Hid (xs.take (k + 1) = ys.take (k + 1)) := take_eq heq.out HX.out (by rw [hxy]; exact HY.out)
          subst hxy
          have hb2 : (x != x) = false := by simp
          clear heq
          go_wp2_with fail
          go_quiet (fail)
          go_wp2_with fail
          go_roundw
          case rel => exact ⟨k + 1, by omega, by go_num, hnx, HB.out _⟩
          case measure => simp [intOf]; omega
        · have HF : Hid (∀ q, YesEnd (xs = ys) w (wr.drewN q) (.returned (.bool false))) := fun q => yes_no (take_ne HX.out HY.out hxy) (HB.out q)
          have hb2 : (x != y) = true := by simpa using hxy
          clear heq hxy
          go_wp2_with fail
          go_quiet (fail)
          go_wp2_with fail
          go_ret
          exact HF.out _
      · have HF : Hid (YesEnd (xs = ys) w wr (.returned (.bool true))) := yes_yes (by have := heq.out; rwa [List.take_of_length_le (by rw [HL1.out]; omega), List.take_of_length_le (by rw [HL2.out]; omega)] at this) hb.out
        clear heq
        go_wp2_with fail
        go_ret
        exact HF.out
  · have hq : ((n1 : Int) != (n2 : Int)) = true := by simp; omega
    have HF : Hid (YesEnd (xs = ys) w w (.returned (.bool false))) := yes_no (fun e => hne (by rw [← h1.1, ← h2.1, e])) (Below.refl _ _)
    clear h1 h2 hne
    go_enter Try.func67, Try.ntmps67
    go_wp2_with fail
    go_ret
    exact HF.out
theorem impl_sameLoads0 (A1 : Option Addr) (n1 c1 : Nat) (xs : List Int) (A2 : Option Addr) (n2 c2 : Nat) (ys : List Int) (w : World) (h1 : InI w A1 n1 xs) (h2 : InI w A2 n2 ys) :
    Calls Try.prog 39 #[.slice A1 n1 c1, .slice A2 n2 c2] w fun e w' => YesEnd (xs = ys) w w' e := by
  go_enter Try.func39, Try.ntmps39
  go_wp2_with fail
  refine (equal_ints A1 n1 c1 xs A2 n2 c2 ys _ h1 h2).mono ?_
  rintro e w1 ⟨b, rfl, hq, hb⟩
  have HF : Hid (YesEnd (xs = ys) w w1 (.returned (.bool b))) := ⟨b, rfl, hq, hb⟩
  clear hq hb
  go_wp2_with fail
  go_ret
  exact HF.out
theorem impl_sameLoads (A1 : Option Addr) (n1 c1 : Nat) (xs : List Int) (A2 : Option Addr) (n2 c2 : Nat) (ys : List Int) (w : World) (h1 : InI w A1 n1 xs) (h2 : InI w A2 n2 ys) :
    Calls Try.prog 39 #[.slice A1 n1 c1, .slice A2 n2 c2] w fun e w' => ∃ b, e = .returned (.bool b) ∧ SameLoadsIs xs ys b ∧ Below w.heap.size w w' := impl_sameLoads0 A1 n1 c1 xs A2 n2 c2 ys w h1 h2
set_option maxHeartbeats 1600000 in
theorem spec_sameLoads0 (A1 : Option Addr) (n1 c1 : Nat) (xs : List Int) (A2 : Option Addr) (n2 c2 : Nat) (ys : List Int) (w : World) (h1 : InI w A1 n1 xs) (h2 : InI w A2 n2 ys) :
    Calls Try.prog 38 #[.slice A1 n1 c1, .slice A2 n2 c2] w fun e w' => YesEnd (xs = ys) w w' e := by
  have hm1 := h1.2.1
  have hm2 := h2.2.1
  by_cases hne : n1 = n2
  · subst hne
    have HL1 : Hid (xs.length = n1) := h1.1
    have HL2 : Hid (ys.length = n1) := h2.1
    have H1 := Lib.hid h1
    have H2 := Lib.hid h2
    have hbq : ((n1 : Int) != (n1 : Int)) = false := by simp
    clear h1 h2
    go_enter Try.func38, Try.ntmps38
    go_wp2_with fail
    go_loopw [14] (fun y wr => ∃ k : Nat, k ≤ n1 ∧ y = .int .i64 k ∧ Hid (xs.take k = ys.take k) ∧ Hid (Below w.heap.size w wr)) (fun y _ => n1 - (intOf y).toNat)
    case atStart => exact ⟨0, Nat.zero_le _, rfl, by simp [Hid], Below.refl _ _⟩
    case round =>
      obtain ⟨k, hk, rfl, heq, hb⟩ := hrel
      by_cases hlt : k < n1
      · obtain ⟨b1, o1, x, rfl, hx, e0, _, _, _⟩ := (H1.out.below hb.out).get hlt
        obtain ⟨b2, o2, y, rfl, hy, d0, _, _, _⟩ := (H2.out.below hb.out).get hlt
        have hk0 : (0 : Int) ≤ (k : Int) := by omega
        have hk1 : (k : Int) < (n1 : Int) := by omega
        have HX := Lib.hid hx
        have HY := Lib.hid hy
        clear hx hy
        by_cases hxy : x = y
        · have hnx : Hid (xs.take (k + 1) = ys.take (k + 1)) := take_eq heq.out HX.out (by rw [hxy]; exact HY.out)
          subst hxy
          have hb2 : (x != x) = false := by simp
          clear heq
          go_wp2_with fail
          go_roundw
          case rel => exact ⟨k + 1, by omega, by go_num, hnx, hb⟩
          case measure => simp [intOf]; omega
        · have HF : Hid (YesEnd (xs = ys) w wr (.returned (.bool false))) := yes_no (take_ne HX.out HY.out hxy) hb.out
          have hb2 : (x != y) = true := by simpa using hxy
          clear heq hxy
          go_wp2_with fail
          go_ret
          exact HF.out
      · have HF : Hid (YesEnd (xs = ys) w wr (.returned (.bool true))) := yes_yes (by have := heq.out; rwa [List.take_of_length_le (by rw [HL1.out]; omega), List.take_of_length_le (by rw [HL2.out]; omega)] at this) hb.out
        clear heq
        go_wp2_with fail
        go_ret
        exact HF.out
  · have hq : ((n1 : Int) != (n2 : Int)) = true := by simp; omega
    have HF : Hid (YesEnd (xs = ys) w w (.returned (.bool false))) := yes_no (fun e => hne (by rw [← h1.1, ← h2.1, e])) (Below.refl _ _)
    clear h1 h2 hne
    go_enter Try.func38, Try.ntmps38
    go_wp2_with fail
    go_ret
    exact HF.out
theorem spec_sameLoads (A1 : Option Addr) (n1 c1 : Nat) (xs : List Int) (A2 : Option Addr) (n2 c2 : Nat) (ys : List Int) (w : World) (h1 : InI w A1 n1 xs) (h2 : InI w A2 n2 ys) :
    Calls Try.prog 38 #[.slice A1 n1 c1, .slice A2 n2 c2] w fun e w' => ∃ b, e = .returned (.bool b) ∧ SameLoadsIs xs ys b ∧ Below w.heap.size w w' := spec_sameLoads0 A1 n1 c1 xs A2 n2 c2 ys w h1 h2
end Go.Proofs.Ytipmeijfmiiedaa
