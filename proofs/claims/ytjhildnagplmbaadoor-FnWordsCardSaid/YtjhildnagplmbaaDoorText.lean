/- Contracts of the text utilities: what each function of the model and of the program returns. -/
import Derived.Test.YtjhildnagplmbaaDoorBase
import Derived.Test.YtjhildnagplmbaaDoorRows
import Derived.Handy
namespace Go.Proofs.YtjhildnagplmbaaDoor
open Go.RowKit

set_option maxHeartbeats 400000 in
theorem spec_isDigits (s : ByteArray) (w : World) (hs : s.size ≤ maxLen) :
    Calls Tryd.prog 27 #[.string s] w fun e w' => e = .returned (.bool (digitsB s.data.toList)) ∧ w = w' := by
  unfold maxLen at hs
  go_enter Tryd.func27, Tryd.ntmps27
  go_wp2
  go_loop [3] (fun i => ∃ k : Nat, k ≤ s.size ∧ i = .int .i64 k ∧ Hid ((s.data.toList.take k).all digB = true)) (fun i => s.size - (intOf i).toNat)
  case atStart => exact ⟨0, Nat.zero_le _, rfl, by simp [Hid]⟩
  case round =>
    obtain ⟨k, hk, rfl, hall⟩ := hrel
    by_cases hlt : k < s.size
    · by_cases h1 : ((s[k].toNat : Int)) < 48
      · have hno := Lib.hid (digitsB_no s k hlt (digB_lo _ h1))
        go_wp2
        go_ret
        exact ⟨ret_bool hno.out.symm, rfl⟩
      · by_cases h2 : 57 < ((s[k].toNat : Int))
        · have hno := Lib.hid (digitsB_no s k hlt (digB_hi _ h2))
          go_wp2
          go_ret
          exact ⟨ret_bool hno.out.symm, rfl⟩
        · have hyes : Hid ((s.data.toList.take (k + 1)).all digB = true) := all_snoc _ s k hlt hall.out (digB_yes _ (by omega) (by omega))
          go_wp2
          go_round
          case rel => exact ⟨k + 1, by omega, by go_num, hyes⟩
          case measure => simp [intOf]; omega
    · by_cases h0 : 0 < s.size
      · have hyes := Lib.hid (digitsB_yes s k (by omega) hall.out h0)
        go_wp2
        go_ret
        exact ⟨ret_bool (by rw [hyes.out]), rfl⟩
      · have hno := Lib.hid (digitsB_nil s (by omega))
        go_wp2
        go_ret
        exact ⟨ret_bool (by rw [hno.out]), rfl⟩

theorem impl_isDigit (r : Int) (b : Bool) (hb : (decide (48 ≤ r) && decide (r ≤ 57)) = b) (w : World) :
    Calls Tryd.prog 26 #[.int .i32 r] w fun e w' => e = .returned (.bool b) ∧ w = w' := by
  subst hb
  by_cases h1 : 48 ≤ r
  · by_cases h2 : r ≤ 57
    all_goals
      go_enter Tryd.func26, Tryd.ntmps26
      go_wp2
      go_ret
      exact ⟨ret_bool (by simp [h1, h2]), rfl⟩
  · go_enter Tryd.func26, Tryd.ntmps26
    go_wp2
    go_ret
    exact ⟨ret_bool (by simp; omega), rfl⟩

theorem impl_isLetter (r : Int) (b : Bool) (hb : (decide (97 ≤ r) && decide (r ≤ 122)) = b) (w : World) :
    Calls Tryd.prog 25 #[.int .i32 r] w fun e w' => e = .returned (.bool b) ∧ w = w' := by
  subst hb
  by_cases h1 : 97 ≤ r
  · by_cases h2 : r ≤ 122
    all_goals
      go_enter Tryd.func25, Tryd.ntmps25
      go_wp2
      go_ret
      exact ⟨ret_bool (by simp [h1, h2]), rfl⟩
  · go_enter Tryd.func25, Tryd.ntmps25
    go_wp2
    go_ret
    exact ⟨ret_bool (by simp; omega), rfl⟩



set_option maxHeartbeats 1000000 in
theorem impl_isName (s : ByteArray) (w : World) (hs : s.size ≤ maxLen) :
    Calls Tryd.prog 12 #[.string s] w fun e w' => e = .returned (.bool (nameB s)) ∧ Below w.heap.size w w' := by
  unfold maxLen at hs
  by_cases hz : s.size = 0
  · have hno := Lib.hid (nameB_nil s hz)
    have hem := toList_none s hz
    go_enter Tryd.func12, Tryd.ntmps12
    go_wp2
    go_ret
    exact ⟨ret_bool (by rw [hno.out]), Below.refl _ _⟩
  have hem := toList_some s (by omega)
  by_cases h8 : 8 < (s.size : Int)
  · have hno := Lib.hid (nameB_long s (by omega))
    go_enter Tryd.func12, Tryd.ntmps12
    go_wp2
    go_ret
    exact ⟨ret_bool (by rw [hno.out]), Below.refl _ _⟩
  go_enter Tryd.func12, Tryd.ntmps12
  go_wp2
  go_loopw [3, 4] (fun _ _ wr => ∃ k : Nat, wr = w.iter s k ∧ k ≤ s.size ∧ Hid (NameTo s k)) (fun _ _ wr => s.size - wr.iterPos w.heap.size)
  case atStart => exact ⟨0, rfl, Nat.zero_le _, NameTo.zero s⟩
  case round =>
    obtain ⟨k, rfl, hk, hall⟩ := hrel
    by_cases hlt : k < s.size
    · obtain ⟨r, k', hnx, hr, hk'⟩ : ∃ (r k' : Nat), (∀ ty, (Instr.next (.pointer (some ⟨w.heap.size, 0, none⟩)) true ty).run Tryd.prog (w.iter s k) = .ok (.tuple #[.bool true, .int .i64 k, .int .i32 r]) (w.iter s k')) ∧ RuneOf s[k] r ∧ (r < 128 → k' = k + 1) := by
        by_cases ha : (s[k]).toNat < 128
        · exact ⟨_, _, fun ty => run_next_ascii w s k ty hlt ha, .inl rfl, fun _ => rfl⟩
        · have hd := (decode_high s k hlt (by omega)).1
          exact ⟨_, _, fun ty => run_next_any w s k ty hlt, .inr ⟨by omega, hd⟩, fun h => by omega⟩
      by_cases hl : 97 ≤ (r : Int) ∧ (r : Int) ≤ 122
      · obtain ⟨h1, h2⟩ := hl
        have hyes : Hid (NameTo s (k + 1)) := hall.out.succ hlt (nameAt_low _ _ (hr.low (by omega) (by omega)))
        obtain rfl : k' = k + 1 := hk' (by omega)
        clear hr hk'
        go_wp2_with (go_at_call 25; refine (impl_isLetter _ true (by simp; omega) _).mono ?_; rintro e w' ⟨rfl, rfl⟩)
        go_roundw
        case rel => exact ⟨k + 1, rfl, by omega, hyes⟩
        case measure => simp; omega
      · have hnl : (decide (97 ≤ (r : Int)) && decide ((r : Int) ≤ 122)) = false := by
          rw [← Bool.decide_and, decide_eq_false hl]
        by_cases h0 : k = 0
        · have hno := Lib.hid (nameB_no s k hlt (nameAt_zero _ _ (hr.notLow hl) h0))
          have hk0 : ((k : Int) == 0) = true := by simp [h0]
          have hnl := Lib.hid hnl
          clear hr hk' h0 hl
          go_wp2_with (go_at_call 25; refine (impl_isLetter _ false hnl.out _).mono ?_; rintro e w' ⟨rfl, rfl⟩)
          go_ret
          exact ⟨ret_bool hno.out.symm, (Below.refl _ _).alloc (Nat.le_refl _) _⟩
        · have hk0 : ((k : Int) == 0) = false := by simp [h0]
          by_cases hd : 48 ≤ (r : Int) ∧ (r : Int) ≤ 57
          · have hyes : Hid (NameTo s (k + 1)) := hall.out.succ hlt (nameAt_dig _ _ (hr.dig (by omega) (by omega)) (by omega))
            obtain rfl : k' = k + 1 := hk' (by omega)
            have hnl := Lib.hid hnl
            have hdd : Hid ((decide (48 ≤ (r : Int)) && decide ((r : Int) ≤ 57)) = true) := by
              unfold Hid; rw [← Bool.decide_and, decide_eq_true hd]
            clear hr hk' hl hd
            go_wp2_with (first | (go_at_call 25; refine (impl_isLetter _ false hnl.out _).mono ?_; rintro e w' ⟨rfl, rfl⟩) | (go_at_call 26; refine (impl_isDigit _ true hdd.out _).mono ?_; rintro e w' ⟨rfl, rfl⟩))
            go_roundw
            case rel => exact ⟨k + 1, rfl, by omega, hyes⟩
            case measure => simp; omega
          · have hno := Lib.hid (nameB_no s k hlt (nameAt_no _ _ (hr.notLow hl) (hr.notDig hd)))
            have hnl := Lib.hid hnl
            have hdd : Hid ((decide (48 ≤ (r : Int)) && decide ((r : Int) ≤ 57)) = false) := by
              unfold Hid; rw [← Bool.decide_and, decide_eq_false hd]
            clear hr hk' hl hd
            go_wp2_with (first | (go_at_call 25; refine (impl_isLetter _ false hnl.out _).mono ?_; rintro e w' ⟨rfl, rfl⟩) | (go_at_call 26; refine (impl_isDigit _ false hdd.out _).mono ?_; rintro e w' ⟨rfl, rfl⟩))
            go_ret
            exact ⟨ret_bool hno.out.symm, (Below.refl _ _).alloc (Nat.le_refl _) _⟩
    · have hnx : ∀ ty, (Instr.next (.pointer (some ⟨w.heap.size, 0, none⟩)) true ty).run Tryd.prog (w.iter s k) = _ := fun ty => run_next_end w s k ty hlt
      have hyes := Lib.hid (nameB_yes s k (by omega) hall.out (by omega) (by omega))
      go_wp2
      go_ret
      exact ⟨ret_bool (by rw [hyes.out]), (Below.refl _ _).alloc (Nat.le_refl _) _⟩
end Go.Proofs.YtjhildnagplmbaaDoor
