/- Contracts of the text utilities: what each function of the model and of the program returns. -/
import Derived.Test.YtjjbgpgpacopjaaBase
import Derived.Test.YtjjbgpgpacopjaaRows
import Derived.Handy
namespace Go.Proofs.Ytjjbgpgpacopjaa
open Go.RowKit

set_option maxHeartbeats 400000 in
theorem spec_isDigits (s : ByteArray) (w : World) (hs : s.size ≤ maxLen) :
    Calls Try.prog 79 #[.string s] w fun e w' => e = .returned (.bool (digitsB s.data.toList)) ∧ w = w' := by
  unfold maxLen at hs
  go_enter Try.func79, Try.ntmps79
  go_wp2
  go_loop [3] (fun i => ∃ k : Nat, k ≤ s.size ∧ i = .int .i64 k ∧ Hid ((s.data.toList.take k).all digB = true)) (fun i => s.size - (intOf i).toNat)
  case atStart => exact ⟨0, Nat.zero_le _, rfl, by simp [Hid]⟩
  case round =>
    obtain ⟨k, hk, rfl, hall⟩ := hrel
    by_cases hlt : k < s.size
    · by_cases h1 : ((s[k].toNat : Int)) < 48
      · have hno := Lib.hid (digitsB_no s k hlt (digB_lo _ h1))
        go_wp2
        go_ret
        exact ⟨ret_bool hno.out.symm, rfl⟩
      · by_cases h2 : 57 < ((s[k].toNat : Int))
        · have hno := Lib.hid (digitsB_no s k hlt (digB_hi _ h2))
          go_wp2
          go_ret
          exact ⟨ret_bool hno.out.symm, rfl⟩
        · have hyes : Hid ((s.data.toList.take (k + 1)).all digB = true) := all_snoc _ s k hlt hall.out (digB_yes _ (by omega) (by omega))
          go_wp2
          go_round
          case rel => exact ⟨k + 1, by omega, by go_num, hyes⟩
          case measure => simp [intOf]; omega
    · by_cases h0 : 0 < s.size
      · have hyes := Lib.hid (digitsB_yes s k (by omega) hall.out h0)
        go_wp2
        go_ret
        exact ⟨ret_bool (by rw [hyes.out]), rfl⟩
      · have hno := Lib.hid (digitsB_nil s (by omega))
        go_wp2
        go_ret
        exact ⟨ret_bool (by rw [hno.out]), rfl⟩

theorem impl_isDigit (r : Int) (b : Bool) (hb : (decide (48 ≤ r) && decide (r ≤ 57)) = b) (w : World) :
    Calls Try.prog 90 #[.int .i32 r] w fun e w' => e = .returned (.bool b) ∧ w = w' := by
  subst hb
  by_cases h1 : 48 ≤ r
  · by_cases h2 : r ≤ 57
    all_goals
      go_enter Try.func90, Try.ntmps90
      go_wp2
      go_ret
      exact ⟨ret_bool (by simp [h1, h2]), rfl⟩
  · go_enter Try.func90, Try.ntmps90
    go_wp2
    go_ret
    exact ⟨ret_bool (by simp; omega), rfl⟩


set_option maxHeartbeats 400000 in
theorem impl_isDigits (s : ByteArray) (w : World) (hs : s.size ≤ maxLen) :
    Calls Try.prog 81 #[.string s] w fun e w' => e = .returned (.bool (digitsB s.data.toList)) ∧ Below w.heap.size w w' := by
  unfold maxLen at hs
  go_enter Try.func81, Try.ntmps81
  go_wp2
  go_loopw [4] (fun _ wr => ∃ k : Nat, wr = w.iter s k ∧ k ≤ s.size ∧ Hid ((s.data.toList.take k).all digB = true)) (fun _ wr => s.size - wr.iterPos w.heap.size)
  case atStart => exact ⟨0, rfl, Nat.zero_le _, by simp [Hid]⟩
  case round =>
    obtain ⟨k, rfl, hk, hall⟩ := hrel
    by_cases hlt : k < s.size
    · by_cases ha : (s[k]).toNat < 128
      · have hnx : ∀ ty, (Instr.next (.pointer (some ⟨w.heap.size, 0, none⟩)) true ty).run Try.prog (w.iter s k) = _ := fun ty => run_next_ascii w s k ty hlt ha
        by_cases h1 : ((s[k].toNat : Int)) < 48
        · have hno := Lib.hid (digitsB_no s k hlt (digB_lo _ h1))
          go_wp2_with (go_at_call 90; refine (impl_isDigit _ false (by simp; omega) _).mono ?_; rintro e w' ⟨rfl, rfl⟩)
          go_ret
          exact ⟨ret_bool hno.out.symm, (Below.refl _ _).alloc (Nat.le_refl _) _⟩
        · by_cases h2 : 57 < ((s[k].toNat : Int))
          · have hno := Lib.hid (digitsB_no s k hlt (digB_hi _ h2))
            go_wp2_with (go_at_call 90; refine (impl_isDigit _ false (by simp; omega) _).mono ?_; rintro e w' ⟨rfl, rfl⟩)
            go_ret
            exact ⟨ret_bool hno.out.symm, (Below.refl _ _).alloc (Nat.le_refl _) _⟩
          · have hyes : Hid ((s.data.toList.take (k + 1)).all digB = true) := all_snoc _ s k hlt hall.out (digB_yes _ (by omega) (by omega))
            go_wp2_with (go_at_call 90; refine (impl_isDigit _ true (by simp; omega) _).mono ?_; rintro e w' ⟨rfl, rfl⟩)
            go_roundw
            case rel => exact ⟨k + 1, rfl, by omega, hyes⟩
            case measure => simp; omega
      · have hnx : ∀ ty, (Instr.next (.pointer (some ⟨w.heap.size, 0, none⟩)) true ty).run Try.prog (w.iter s k) = _ := fun ty => run_next_any w s k ty hlt
        have hd := (decode_high s k hlt (by omega)).1
        have h2 : (57 : Int) < ((Utf8.decode s k).1 : Int) := by omega
        have hno := Lib.hid (digitsB_no s k hlt (digB_hi _ (by omega)))
        clear hd ha
        go_wp2_with (go_at_call 90; refine (impl_isDigit _ false (by simp; omega) _).mono ?_; rintro e w' ⟨rfl, rfl⟩)
        go_ret
        exact ⟨ret_bool hno.out.symm, (Below.refl _ _).alloc (Nat.le_refl _) _⟩
    · have hnx : ∀ ty, (Instr.next (.pointer (some ⟨w.heap.size, 0, none⟩)) true ty).run Try.prog (w.iter s k) = _ := fun ty => run_next_end w s k ty hlt
      by_cases h0 : 0 < s.size
      · have hyes := Lib.hid (digitsB_yes s k (by omega) hall.out h0)
        have hem := toList_some s h0
        go_wp2
        go_ret
        exact ⟨ret_bool (by rw [hyes.out]), (Below.refl _ _).alloc (Nat.le_refl _) _⟩
      · have hno := Lib.hid (digitsB_nil s (by omega))
        have hem := toList_none s (by omega)
        go_wp2
        go_ret
        exact ⟨ret_bool (by rw [hno.out]), (Below.refl _ _).alloc (Nat.le_refl _) _⟩


end Go.Proofs.Ytjjbgpgpacopjaa
