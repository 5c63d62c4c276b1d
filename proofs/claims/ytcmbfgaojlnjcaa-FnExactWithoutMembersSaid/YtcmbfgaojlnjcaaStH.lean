/- Structures held by the helpers of the laws. -/
import Derived.Test.YtcmbfgaojlnjcaaStM6
namespace Go.Proofs.Ytcmbfgaojlnjcaa
set_option maxRecDepth 100000
open Go.RowKit

set_option maxHeartbeats 1600000 in
theorem heldJointS_same (A : Option Addr) (n c K : Nat) (w : World) (h0 : 0 < K) (hK : K + 4 * n < maxLen) (hr : Reads w A (jcells (marksJ K n))) :
    Calls Try.prog 76 #[.slice A n c, .int .i64 K] w fun e w' => e = .returned (.int .i64 ((K + 4 * n : Nat) : Int)) ∧ Below w.heap.size w w' := by
  unfold maxLen at hK
  have Hr := Lib.hid hr
  clear hr
  go_enter Try.func76, Try.ntmps76
  go_wp2_with fail
  go_loopw [1, 5] (fun x y wr => ∃ i : Nat, i ≤ n ∧ x = .int .i64 ((K + 4 * i : Nat) : Int) ∧ y = .int .i64 i ∧ Hid (Below w.heap.size w wr)) (fun _ y _ => n - (intOf y).toNat)
  case atStart => exact ⟨0, Nat.zero_le _, rfl, rfl, Below.refl _ _⟩
  case round =>
    obtain ⟨i, hi, rfl, rfl, hb⟩ := hrel
    by_cases hlt : i < n
    · obtain ⟨b, o, rfl, hbs, j, hj, hat⟩ := (Hr.out.below hb.out).atJ (i := i) (by rw [marksJ_length]; exact hlt)
      rw [marksJ_at hlt] at hj
      obtain rfl := Option.some.inj hj
      have hi0 : (0 : Int) ≤ (i : Int) := by omega
      have hi1 : (i : Int) < (n : Int) := by omega
      obtain ⟨kk, hkk⟩ : ∃ kk, kk = K + 4 * i := ⟨_, rfl⟩
      have hk0 : (0 : Int) ≤ (kk : Int) := by omega
      have hk1 : (kk : Int) + 4 ≤ 9223372036854775806 := by omega
      have hk2 : kk + 4 ≤ 9223372036854775806 := by omega
      have hk3 : 0 < kk := by omega
      rw [← hkk] at hat ⊢
      have HK := Lib.hid hkk
      have HAT := Lib.hid hat
      obtain ⟨hcell, _⟩ := hat
      simp only [markJ] at hcell
      clear hkk hj
      go_wp2_with fail
      have hbo := hb.out
      go_region_held3 (fun w' => w'.cell? ⟨b, o + i * 4, none⟩ = some (.string (markT kk)) ∧ Below w.heap.size w w') (first | exact ⟨hcell, hbo.drew⟩ | exact ⟨(hb1.cell (p := ⟨b, o + i * 4, none⟩) hbs).trans hcell, hbo.drew.trans (hb1.mono hbo.size)⟩ | go_keep) (first | (go_at_call 88; refine (markText_any kk _ hk3 (by unfold maxLen; omega)).mono ?_; rintro e w1 ⟨rfl, hb1⟩))
      have hbw : Hid (Below w.heap.size w w1) := hbo.drew.trans (hb1.mono hbo.size)
      have HA1 := Lib.hid (HAT.out.drew.below hbs hb1)
      obtain ⟨_, a1, a2, a3⟩ := HA1.out
      simp only [markJ] at a1 a2 a3
      clear hcell hb1
      go_wp2_with fail
      go_roundw
      case rel => exact ⟨i + 1, by omega, by have := HK.out; go_num, by go_num, hbw⟩
      case measure => simp [intOf]; omega
    · obtain rfl : i = n := by omega
      go_wp2_with fail
      go_ret
      exact ⟨rfl, hb.out⟩
set_option maxHeartbeats 1600000 in
theorem heldMemberS_same (A : Option Addr) (n c K : Nat) (w : World) (hK : K + 3 * n < maxLen) (hr : Reads w A (mcells (marksM K n))) :
    Calls Try.prog 77 #[.slice A n c, .int .i64 K] w fun e w' => e = .returned (.int .i64 ((K + 3 * n : Nat) : Int)) ∧ Below w.heap.size w w' := by
  unfold maxLen at hK
  have Hr := Lib.hid hr
  clear hr
  go_enter Try.func77, Try.ntmps77
  go_wp2_with fail
  go_loop [1, 5] (fun x y => ∃ i : Nat, i ≤ n ∧ x = .int .i64 ((K + 3 * i : Nat) : Int) ∧ y = .int .i64 i) (fun _ y => n - (intOf y).toNat)
  case atStart => exact ⟨0, Nat.zero_le _, rfl, rfl⟩
  case round =>
    obtain ⟨i, hi, rfl, rfl⟩ := hrel
    by_cases hlt : i < n
    · obtain ⟨b, o, rfl, hbs, j, hj, hat⟩ := Hr.out.atM (i := i) (by rw [marksM_length]; exact hlt)
      rw [marksM_at hlt] at hj
      obtain rfl := Option.some.inj hj
      have hi0 : (0 : Int) ≤ (i : Int) := by omega
      have hi1 : (i : Int) < (n : Int) := by omega
      obtain ⟨kk, hkk⟩ : ∃ kk, kk = K + 3 * i := ⟨_, rfl⟩
      have hk0 : (0 : Int) ≤ (kk : Int) := by omega
      have hk1 : (kk : Int) + 3 ≤ 9223372036854775806 := by omega
      have hk2 : kk + 3 ≤ 9223372036854775806 := by omega
      rw [← hkk] at hat ⊢
      have HK := Lib.hid hkk
      obtain ⟨a0, a1, a2⟩ := hat
      simp only [markM] at a0 a1 a2
      clear hkk hj
      go_wp2_with fail
      go_round
      case rel => exact ⟨i + 1, by omega, by have := HK.out; go_num, by go_num⟩
      case measure => simp [intOf]; omega
    · obtain rfl : i = n := by omega
      go_wp2_with fail
      go_ret
      exact ⟨rfl, Below.refl _ _⟩
set_option maxHeartbeats 1600000 in
theorem heldStructure_same (A : Option Addr) (n c : Nat) (B : Option Addr) (m d K : Nat) (w : World) (h0 : 0 < K) (hK : K + 4 * n + 3 * m < maxLen) (h1 : Reads w A (jcells (marksJ K n))) (h2 : Reads w B (mcells (marksM (K + 4 * n) m))) :
    Calls Try.prog 49 #[.agg #[.slice A n c, .slice B m d], .int .i64 K] w fun e w' => e = .returned (.int .i64 ((K + 4 * n + 3 * m : Nat) : Int)) ∧ Below w.heap.size w w' := by
  obtain ⟨W, hW⟩ : ∃ W, W = w.alloc (.cells #[.slice A n c, .slice B m d] 48) := ⟨_, rfl⟩
  have X0 : Hid (Box W w.heap.size 48 #[.slice A n c, .slice B m d]) := by rw [hW]; exact Box.new _ _ _
  have BW : Hid (Below w.heap.size w W) := by rw [hW]; exact (Below.refl _ _).alloc (Nat.le_refl _) _
  have H1 := Lib.hid (h1.below BW.out)
  have H2 := Lib.hid (h2.below BW.out)
  clear h1 h2
  have hn1 : ¬ ((K + 4 * n : Nat) : Int) < 0 := by omega
  have hn2 : ¬ ((K + 4 * n + 3 * m : Nat) : Int) < 0 := by omega
  go_enter Try.func49, Try.ntmps49
  go_wp2_with fail
  rw [← hW]
  clear hW
  refine (heldJointS_same A n c K _ h0 (by omega) H1.out).mono ?_
  rintro e w1 ⟨rfl, hb⟩
  have X1 := Lib.hid (X0.out.below hb X0.out.lt)
  have B1 := Lib.hid (BW.out.trans (hb.mono BW.out.size))
  have H2' := Lib.hid (H2.out.below hb)
  clear hb
  have q1 := X1.out.cell 1
  simp at q1
  go_wp2_with fail
  refine (heldMemberS_same B m d (K + 4 * n) _ (by omega) H2'.out).mono ?_
  rintro e w2 ⟨rfl, hb⟩
  have B2 := Lib.hid (B1.out.trans (hb.mono B1.out.size))
  clear hb q1
  go_wp2_with fail
  go_ret
  exact ⟨rfl, B2.out⟩
end Go.Proofs.Ytcmbfgaojlnjcaa
