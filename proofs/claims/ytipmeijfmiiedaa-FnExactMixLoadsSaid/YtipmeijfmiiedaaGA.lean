/- Plain facts on bytes and lists that the walks of the text utilities use; no program is named here. -/
import Derived.WalkKit
import Derived.WalkSpells
import Derived.WalkLawsBesides
import Derived.Lib.Hide
import Derived.Lib.Strings
import Derived.Test.YtipmeijfmiiedaaRows
import Derived.Handy
import Derived.BigQuiet
import Derived.Deep.QuietTactic
import Derived.Deep.RegionHeld3
import Derived.Deep.Draws
import Derived.Laws.OwnMore
import Derived.SliceStrings
import Derived.ProofKit
import Derived.Lib.Join
import Derived.OpenShut
import Derived.Maps.AppendAt
import Derived.Deep.AppendSrc
import Derived.Lib.ItoaNum
import Derived.Lib.ItoaMem
import Derived.Lib.AtoiAllCases
namespace Go.Proofs.Ytipmeijfmiiedaa
set_option maxRecDepth 100000
open Go.RowKit

theorem ret_bool {a b : Bool} (h : a = b) : Ending.returned (.bool a) = .returned (.bool b) := by rw [h]
theorem ret_str {a b : ByteArray} (h : a = b) : Ending.returned (.string a) = .returned (.string b) := by rw [h]
theorem ret_int {k : IntKind} {a b : Int} (h : a = b) : Ending.returned (.int k a) = .returned (.int k b) := by rw [h]

/-- A digit's byte. -/
def digB (c : UInt8) : Bool := decide (48 ≤ c.toNat) && decide (c.toNat ≤ 57)
/-- A small letter's byte. -/
def lowB (c : UInt8) : Bool := decide (97 ≤ c.toNat) && decide (c.toNat ≤ 122)
def digitsB (l : List UInt8) : Bool := l.all digB && decide (0 < l.length)

theorem take_snoc (s : ByteArray) (k : Nat) (h : k < s.size) : s.data.toList.take (k + 1) = s.data.toList.take k ++ [s[k]] := by
  rw [List.take_succ_eq_append_getElem (by simpa using h)]; rfl
theorem take_all (s : ByteArray) (k : Nat) (h : s.size ≤ k) : s.data.toList.take k = s.data.toList :=
  List.take_of_length_le (by simpa using h)
theorem mem_at (s : ByteArray) (k : Nat) (h : k < s.size) : s[k] ∈ s.data.toList := by
  have : s[k] = s.data.toList[k]'(by simpa using h) := rfl
  rw [this]; exact List.getElem_mem _
theorem len_size (s : ByteArray) : s.data.toList.length = s.size := rfl

theorem digitsB_yes (s : ByteArray) (k : Nat) (hk : s.size ≤ k) (h : (s.data.toList.take k).all digB = true) (hp : 0 < s.size) : digitsB s.data.toList = true := by
  rw [take_all s k hk] at h
  unfold digitsB
  rw [h, len_size, decide_eq_true hp]; rfl
theorem digitsB_nil (s : ByteArray) (h : s.size = 0) : digitsB s.data.toList = false := by
  unfold digitsB
  rw [len_size, decide_eq_false (by omega), Bool.and_false]
theorem digitsB_no (s : ByteArray) (k : Nat) (hk : k < s.size) (h : digB s[k] = false) : digitsB s.data.toList = false := by
  unfold digitsB
  rw [Bool.and_eq_false_iff]; left
  rw [List.all_eq_false]
  exact ⟨_, mem_at s k hk, by simp [h]⟩
theorem all_snoc (p : UInt8 → Bool) (s : ByteArray) (k : Nat) (hk : k < s.size) (h : (s.data.toList.take k).all p = true) (hp : p s[k] = true) : (s.data.toList.take (k + 1)).all p = true := by
  rw [take_snoc s k hk, List.all_append, h]; simp [hp]
theorem digB_yes (c : UInt8) (h1 : 48 ≤ (c.toNat : Int)) (h2 : (c.toNat : Int) ≤ 57) : digB c = true := by
  unfold digB; simp; omega
theorem digB_lo (c : UInt8) (h1 : (c.toNat : Int) < 48) : digB c = false := by
  unfold digB; simp; omega
theorem digB_hi (c : UInt8) (h1 : 57 < (c.toNat : Int)) : digB c = false := by
  unfold digB; simp; omega

theorem toList_some (s : ByteArray) (h : 0 < s.size) : s.toList.isEmpty = false := by
  rw [Lib.toList_data, List.isEmpty_eq_false_iff]
  intro e
  have : s.data.toList.length = 0 := by rw [e]; rfl
  rw [len_size] at this; omega
theorem toList_none (s : ByteArray) (h : s.size = 0) : s.toList.isEmpty = true := by
  rw [Lib.toList_data, List.isEmpty_iff]
  exact List.eq_nil_of_length_eq_zero h

/-- Byte c may stand at place i of a name. -/
def nameAt (i : Nat) (c : UInt8) : Bool := lowB c || (decide (0 < i) && digB c)
def nameB (s : ByteArray) : Bool := decide (1 ≤ s.size) && decide (s.size ≤ 8) && decide (∀ j : Fin s.size, nameAt j.1 s[j.1] = true)
/-- The first k bytes may stand where they stand. -/
def NameTo (s : ByteArray) (k : Nat) : Prop := ∀ j (h : j < s.size), j < k → nameAt j s[j] = true
theorem NameTo.zero (s : ByteArray) : NameTo s 0 := fun _ _ h => absurd h (by omega)
theorem NameTo.succ {s : ByteArray} {k : Nat} (h : NameTo s k) (hk : k < s.size) (hc : nameAt k s[k] = true) : NameTo s (k + 1) := by
  intro j hj hlt
  by_cases e : j = k
  · subst e; exact hc
  · exact h j hj (by omega)
theorem nameB_no (s : ByteArray) (k : Nat) (hk : k < s.size) (h : nameAt k s[k] = false) : nameB s = false := by
  unfold nameB
  rw [Bool.and_eq_false_iff]; right
  rw [decide_eq_false_iff_not]
  intro hall
  have := hall ⟨k, hk⟩
  rw [h] at this; cases this
theorem nameB_yes (s : ByteArray) (k : Nat) (hk : s.size ≤ k) (h : NameTo s k) (h1 : 1 ≤ s.size) (h8 : s.size ≤ 8) : nameB s = true := by
  unfold nameB
  rw [decide_eq_true h1, decide_eq_true h8, Bool.true_and, Bool.true_and, decide_eq_true_iff]
  exact fun j => h j.1 j.2 (by omega)
theorem nameB_nil (s : ByteArray) (h : s.size = 0) : nameB s = false := by
  unfold nameB
  rw [decide_eq_false (by omega)]; rfl
theorem nameB_long (s : ByteArray) (h : 8 < s.size) : nameB s = false := by
  unfold nameB
  rw [decide_eq_false (p := s.size ≤ 8) (by omega)]; simp
theorem lowB_yes (c : UInt8) (h1 : 97 ≤ (c.toNat : Int)) (h2 : (c.toNat : Int) ≤ 122) : lowB c = true := by
  unfold lowB; simp; omega
theorem lowB_lo (c : UInt8) (h1 : (c.toNat : Int) < 97) : lowB c = false := by
  unfold lowB; simp; omega
theorem lowB_hi (c : UInt8) (h1 : 122 < (c.toNat : Int)) : lowB c = false := by
  unfold lowB; simp; omega
theorem nameAt_low (i : Nat) (c : UInt8) (h : lowB c = true) : nameAt i c = true := by unfold nameAt; rw [h]; rfl
theorem nameAt_dig (i : Nat) (c : UInt8) (h : digB c = true) (hi : 0 < i) : nameAt i c = true := by unfold nameAt; rw [h, decide_eq_true hi]; simp
theorem nameAt_zero (i : Nat) (c : UInt8) (h : lowB c = false) (hi : i = 0) : nameAt i c = false := by unfold nameAt; rw [h, hi]; rfl
theorem nameAt_no (i : Nat) (c : UInt8) (h : lowB c = false) (hd : digB c = false) : nameAt i c = false := by unfold nameAt; rw [h, hd]; simp

/-- Rune r is what a range over a string finds at the byte c: c itself, or, where c is beyond ASCII, a rune beyond ASCII. -/
def RuneOf (c : UInt8) (r : Nat) : Prop := r = c.toNat ∨ (128 ≤ c.toNat ∧ 128 ≤ r)
section
variable {c : UInt8} {r : Nat}
theorem RuneOf.low (h : RuneOf c r) (h1 : 97 ≤ r) (h2 : r ≤ 122) : lowB c = true := by
  rcases h with rfl | h
  · exact lowB_yes _ (by omega) (by omega)
  · omega
theorem RuneOf.dig (h : RuneOf c r) (h1 : 48 ≤ r) (h2 : r ≤ 57) : digB c = true := by
  rcases h with rfl | h
  · exact digB_yes _ (by omega) (by omega)
  · omega
theorem RuneOf.notLow (h : RuneOf c r) (hn : ¬ (97 ≤ (r : Int) ∧ (r : Int) ≤ 122)) : lowB c = false := by
  rcases h with rfl | h
  · by_cases a : (c.toNat : Int) < 97
    · exact lowB_lo _ a
    · exact lowB_hi _ (by omega)
  · exact lowB_hi _ (by omega)
theorem RuneOf.notDig (h : RuneOf c r) (hn : ¬ (48 ≤ (r : Int) ∧ (r : Int) ≤ 57)) : digB c = false := by
  rcases h with rfl | h
  · by_cases a : (c.toNat : Int) < 48
    · exact digB_lo _ a
    · exact digB_hi _ (by omega)
  · exact digB_hi _ (by omega)
end
theorem bytes_eta' (s : ByteArray) : (⟨s.data.toList.toArray⟩ : ByteArray) = s := by simp
end Go.Proofs.Ytipmeijfmiiedaa
namespace Go.Proofs.Ytipmeijfmiiedaa
set_option maxRecDepth 100000
open Go.RowKit


theorem impl_isDigit (r : Int) (b : Bool) (hb : (decide (48 ≤ r) && decide (r ≤ 57)) = b) (w : World) :
    Calls Try.prog 97 #[.int .i32 r] w fun e w' => e = .returned (.bool b) ∧ w = w' := by
  subst hb
  by_cases h1 : 48 ≤ r
  · by_cases h2 : r ≤ 57
    all_goals
      go_enter Try.func97, Try.ntmps97
      go_wp2
      go_ret
      exact ⟨ret_bool (by simp [h1, h2]), rfl⟩
  · go_enter Try.func97, Try.ntmps97
    go_wp2
    go_ret
    exact ⟨ret_bool (by simp; omega), rfl⟩

theorem impl_isLetter (r : Int) (b : Bool) (hb : (decide (97 ≤ r) && decide (r ≤ 122)) = b) (w : World) :
    Calls Try.prog 96 #[.int .i32 r] w fun e w' => e = .returned (.bool b) ∧ w = w' := by
  subst hb
  by_cases h1 : 97 ≤ r
  · by_cases h2 : r ≤ 122
    all_goals
      go_enter Try.func96, Try.ntmps96
      go_wp2
      go_ret
      exact ⟨ret_bool (by simp [h1, h2]), rfl⟩
  · go_enter Try.func96, Try.ntmps96
    go_wp2
    go_ret
    exact ⟨ret_bool (by simp; omega), rfl⟩


set_option maxHeartbeats 1000000 in
theorem spec_isName (s : ByteArray) (w : World) (hs : s.size ≤ maxLen) :
    Calls Try.prog 90 #[.string s] w fun e w' => e = .returned (.bool (nameB s)) ∧ w = w' := by
  unfold maxLen at hs
  go_enter Try.func90, Try.ntmps90
  go_wp2
  go_loop [3] (fun i => ∃ k : Nat, k ≤ s.size ∧ i = .int .i64 k ∧ Hid (NameTo s k)) (fun i => s.size - (intOf i).toNat)
  case atStart => exact ⟨0, Nat.zero_le _, rfl, NameTo.zero s⟩
  case round =>
    obtain ⟨k, hk, rfl, hall⟩ := hrel
    by_cases hlt : k < s.size
    · have hgo : 97 ≤ (s[k].toNat : Int) → (s[k].toNat : Int) ≤ 122 → nameAt k s[k] = true := fun a b => nameAt_low _ _ (lowB_yes _ a b)
      by_cases h1 : ((s[k].toNat : Int)) < 97
      · by_cases h0 : k = 0
        · have hno := Lib.hid (nameB_no s k hlt (nameAt_zero _ _ (lowB_lo _ h1) h0))
          have hk0 : ((k : Int) == 0) = true := by simp [h0]
          clear hgo h0
          go_wp2
          go_ret
          exact ⟨ret_bool hno.out.symm, rfl⟩
        · have hk0 : ((k : Int) == 0) = false := by simp [h0]
          by_cases h3 : ((s[k].toNat : Int)) < 48
          · have hno := Lib.hid (nameB_no s k hlt (nameAt_no _ _ (lowB_lo _ h1) (digB_lo _ h3)))
            clear hgo
            go_wp2
            go_ret
            exact ⟨ret_bool hno.out.symm, rfl⟩
          · by_cases h4 : 57 < ((s[k].toNat : Int))
            · have hno := Lib.hid (nameB_no s k hlt (nameAt_no _ _ (lowB_lo _ h1) (digB_hi _ h4)))
              clear hgo
              go_wp2
              go_ret
              exact ⟨ret_bool hno.out.symm, rfl⟩
            · have hyes : Hid (NameTo s (k + 1)) := hall.out.succ hlt (nameAt_dig _ _ (digB_yes _ (by omega) (by omega)) (by omega))
              clear hgo
              go_wp2
              go_round
              case rel => exact ⟨k + 1, by omega, by go_num, hyes⟩
              case measure => simp [intOf]; omega
      · by_cases h2 : 122 < ((s[k].toNat : Int))
        · have hno := Lib.hid (nameB_no s k hlt (nameAt_no _ _ (lowB_hi _ h2) (digB_hi _ (by omega))))
          have hd2 : decide ((s[k].toNat : Int) ≤ 122) = false := by simpa using h2
          by_cases h0 : k = 0
          · have hk0 : ((k : Int) == 0) = true := by simp [h0]
            clear hgo h0
            go_wp2
            go_ret
            exact ⟨ret_bool hno.out.symm, rfl⟩
          · have hk0 : ((k : Int) == 0) = false := by simp [h0]
            clear hgo
            go_wp2
            go_ret
            exact ⟨ret_bool hno.out.symm, rfl⟩
        · have hyes : Hid (NameTo s (k + 1)) := hall.out.succ hlt (hgo (by omega) (by omega))
          clear hgo
          go_wp2
          go_round
          case rel => exact ⟨k + 1, by omega, by go_num, hyes⟩
          case measure => simp [intOf]; omega
    · by_cases h0 : 1 ≤ (s.size : Int)
      · by_cases h8 : (s.size : Int) ≤ 8
        · have hyes := Lib.hid (nameB_yes s k (by omega) hall.out (by omega) (by omega))
          go_wp2
          go_ret
          exact ⟨ret_bool (by rw [hyes.out]), rfl⟩
        · have hno := Lib.hid (nameB_long s (by omega))
          go_wp2
          go_ret
          exact ⟨ret_bool (by rw [hno.out]), rfl⟩
      · have hno := Lib.hid (nameB_nil s (by omega))
        go_wp2
        go_ret
        exact ⟨ret_bool (by rw [hno.out]), rfl⟩

set_option maxHeartbeats 1000000 in
theorem impl_isName (s : ByteArray) (w : World) (hs : s.size ≤ maxLen) :
    Calls Try.prog 93 #[.string s] w fun e w' => e = .returned (.bool (nameB s)) ∧ Below w.heap.size w w' := by
  unfold maxLen at hs
  by_cases hz : s.size = 0
  · have hno := Lib.hid (nameB_nil s hz)
    have hem := toList_none s hz
    go_enter Try.func93, Try.ntmps93
    go_wp2
    go_ret
    exact ⟨ret_bool (by rw [hno.out]), Below.refl _ _⟩
  have hem := toList_some s (by omega)
  by_cases h8 : 8 < (s.size : Int)
  · have hno := Lib.hid (nameB_long s (by omega))
    go_enter Try.func93, Try.ntmps93
    go_wp2
    go_ret
    exact ⟨ret_bool (by rw [hno.out]), Below.refl _ _⟩
  go_enter Try.func93, Try.ntmps93
  go_wp2
  go_loopw [3, 4] (fun _ _ wr => ∃ k : Nat, wr = w.iter s k ∧ k ≤ s.size ∧ Hid (NameTo s k)) (fun _ _ wr => s.size - wr.iterPos w.heap.size)
  case atStart => exact ⟨0, rfl, Nat.zero_le _, NameTo.zero s⟩
  case round =>
    obtain ⟨k, rfl, hk, hall⟩ := hrel
    by_cases hlt : k < s.size
    · obtain ⟨r, k', hnx, hr, hk'⟩ : ∃ (r k' : Nat), (∀ ty, (Instr.next (.pointer (some ⟨w.heap.size, 0, none⟩)) true ty).run Try.prog (w.iter s k) = .ok (.tuple #[.bool true, .int .i64 k, .int .i32 r]) (w.iter s k')) ∧ RuneOf s[k] r ∧ (r < 128 → k' = k + 1) := by
        by_cases ha : (s[k]).toNat < 128
        · exact ⟨_, _, fun ty => run_next_ascii w s k ty hlt ha, .inl rfl, fun _ => rfl⟩
        · have hd := (decode_high s k hlt (by omega)).1
          exact ⟨_, _, fun ty => run_next_any w s k ty hlt, .inr ⟨by omega, hd⟩, fun h => by omega⟩
      by_cases hl : 97 ≤ (r : Int) ∧ (r : Int) ≤ 122
      · obtain ⟨h1, h2⟩ := hl
        have hyes : Hid (NameTo s (k + 1)) := hall.out.succ hlt (nameAt_low _ _ (hr.low (by omega) (by omega)))
        obtain rfl : k' = k + 1 := hk' (by omega)
        clear hr hk'
        go_wp2_with (go_at_call 96; refine (impl_isLetter _ true (by simp; omega) _).mono ?_; rintro e w' ⟨rfl, rfl⟩)
        go_roundw
        case rel => exact ⟨k + 1, rfl, by omega, hyes⟩
        case measure => simp; omega
      · have hnl : (decide (97 ≤ (r : Int)) && decide ((r : Int) ≤ 122)) = false := by
          rw [← Bool.decide_and, decide_eq_false hl]
        by_cases h0 : k = 0
        · have hno := Lib.hid (nameB_no s k hlt (nameAt_zero _ _ (hr.notLow hl) h0))
          have hk0 : ((k : Int) == 0) = true := by simp [h0]
          have hnl := Lib.hid hnl
          clear hr hk' h0 hl
          go_wp2_with (go_at_call 96; refine (impl_isLetter _ false hnl.out _).mono ?_; rintro e w' ⟨rfl, rfl⟩)
          go_ret
          exact ⟨ret_bool hno.out.symm, (Below.refl _ _).alloc (Nat.le_refl _) _⟩
        · have hk0 : ((k : Int) == 0) = false := by simp [h0]
          by_cases hd : 48 ≤ (r : Int) ∧ (r : Int) ≤ 57
          · have hyes : Hid (NameTo s (k + 1)) := hall.out.succ hlt (nameAt_dig _ _ (hr.dig (by omega) (by omega)) (by omega))
            obtain rfl : k' = k + 1 := hk' (by omega)
            have hnl := Lib.hid hnl
            have hdd : Hid ((decide (48 ≤ (r : Int)) && decide ((r : Int) ≤ 57)) = true) := by
              unfold Hid; rw [← Bool.decide_and, decide_eq_true hd]
            clear hr hk' hl hd
            go_wp2_with (first | (go_at_call 96; refine (impl_isLetter _ false hnl.out _).mono ?_; rintro e w' ⟨rfl, rfl⟩) | (go_at_call 97; refine (impl_isDigit _ true hdd.out _).mono ?_; rintro e w' ⟨rfl, rfl⟩))
            go_roundw
            case rel => exact ⟨k + 1, rfl, by omega, hyes⟩
            case measure => simp; omega
          · have hno := Lib.hid (nameB_no s k hlt (nameAt_no _ _ (hr.notLow hl) (hr.notDig hd)))
            have hnl := Lib.hid hnl
            have hdd : Hid ((decide (48 ≤ (r : Int)) && decide ((r : Int) ≤ 57)) = false) := by
              unfold Hid; rw [← Bool.decide_and, decide_eq_false hd]
            clear hr hk' hl hd
            go_wp2_with (first | (go_at_call 96; refine (impl_isLetter _ false hnl.out _).mono ?_; rintro e w' ⟨rfl, rfl⟩) | (go_at_call 97; refine (impl_isDigit _ false hdd.out _).mono ?_; rintro e w' ⟨rfl, rfl⟩))
            go_ret
            exact ⟨ret_bool hno.out.symm, (Below.refl _ _).alloc (Nat.le_refl _) _⟩
    · have hnx : ∀ ty, (Instr.next (.pointer (some ⟨w.heap.size, 0, none⟩)) true ty).run Try.prog (w.iter s k) = _ := fun ty => run_next_end w s k ty hlt
      have hyes := Lib.hid (nameB_yes s k (by omega) hall.out (by omega) (by omega))
      go_wp2
      go_ret
      exact ⟨ret_bool (by rw [hyes.out]), (Below.refl _ _).alloc (Nat.le_refl _) _⟩
end Go.Proofs.Ytipmeijfmiiedaa
namespace Go.Proofs.Ytipmeijfmiiedaa
set_option maxRecDepth 100000
open Go.RowKit

/-- From place o on, block b holds the cells xs. -/
def CellsAt (w : World) (b o : Nat) (xs : List Value) : Prop := ∀ j (h : j < xs.length), w.cell? ⟨b, o + j, none⟩ = some xs[j]
/-- A slice that points to A reads as xs. -/
def Reads (w : World) (A : Option Addr) (xs : List Value) : Prop := xs = [] ∨ ∃ b o, A = some ⟨b, o, none⟩ ∧ b < w.heap.size ∧ CellsAt w b o xs

theorem cells_new (w : World) (xs : List Value) (t : TypeId) : CellsAt (w.alloc (.cells xs.toArray t)) w.heap.size 0 xs := fun j hj => by
  rw [Nat.zero_add, World.cell?_alloc_at _ _ _ _ rfl]; simp [hj]
theorem Reads.none_ {w : World} {A : Option Addr} : Reads w A [] := .inl rfl
theorem Reads.at_ {w : World} {A : Option Addr} {xs : List Value} (h : Reads w A xs) (h0 : 0 < xs.length) : ∃ b o, A = some ⟨b, o, none⟩ ∧ b < w.heap.size ∧ CellsAt w b o xs := by
  rcases h with rfl | h
  · simp at h0
  · exact h
theorem Reads.keep {w w' : World} {A : Option Addr} {xs : List Value} (h : Reads w A xs) (hs : w.heap.size ≤ w'.heap.size)
    (hk : ∀ b o, A = some ⟨b, o, none⟩ → w'.heap[b]? = w.heap[b]?) : Reads w' A xs := by
  rcases h with rfl | ⟨b, o, rfl, hb, hc⟩
  · exact .inl rfl
  · exact .inr ⟨b, o, rfl, by omega, fun j hj => (World.cell?_of_block (a := ⟨b, o + j, none⟩) (hk b o rfl)).trans (hc j hj)⟩
theorem Reads.below {w w' : World} {A : Option Addr} {xs : List Value} (h : Reads w A xs) (hb : Below w.heap.size w w') : Reads w' A xs := by
  rcases h with rfl | ⟨b, o, rfl, hlt, hc⟩
  · exact .inl rfl
  · exact .inr ⟨b, o, rfl, by have := hb.size; omega, fun j hj => (hb.cell (p := ⟨b, o + j, none⟩) hlt).trans (hc j hj)⟩
theorem Reads.of_own {w : World} {base : Nat} {E : TypeId} {A : Option Addr} {n c : Nat} {xs : List Value} (h : w.ownsRow base E 1 (.slice A n c) n xs) : Reads w A xs := by
  obtain ⟨hl, h⟩ := h
  rcases h with ⟨hv, rfl⟩ | ⟨g, cap, cur, hv, hbase, hg, hn, _, hcur, htake⟩
  · left; exact List.eq_nil_of_length_eq_zero (by omega)
  · cases hv
    right
    refine ⟨g, 0, rfl, ?_, fun j hj => ?_⟩
    · rcases Nat.lt_or_ge g w.heap.size with h | h
      · exact h
      · rw [Array.getElem?_eq_none h] at hg; cases hg
    · have h1 : w.cell? ⟨g, 0 + j, none⟩ = cur[j]? := by
        rw [Nat.zero_add]; simp [World.cell?, hg]
      rw [h1]
      subst htake
      have hj' : j < cur.size := by simp at hj; omega
      rw [Array.getElem?_eq_getElem hj']
      simp
theorem Reads.own_lt {w : World} {A : Option Addr} {xs : List Value} (h : Reads w A xs) (h0 : 0 < xs.length) {b o : Nat} (hA : A = some ⟨b, o, none⟩) : b < w.heap.size := by
  obtain ⟨b', o', h1, h2, _⟩ := h.at_ h0
  rw [hA] at h1; cases h1; exact h2


theorem grownBy_of_below {w w' : World} (h : Below w.heap.size w w') (row : Option Nat) : w.grownBy w' row := ⟨h.os, h.tape, h.output, h.size, fun k hk _ => h.block k hk⟩
theorem grownBy_trans {a b c : World} {row : Option Nat} (h : a.grownBy b row) (k : b.grownBy c row) : a.grownBy c row :=
  ⟨k.os.trans h.os, k.tape.trans h.tape, k.output.trans h.output, Nat.le_trans h.size k.size, fun j hj hne => (k.block j (Nat.lt_of_lt_of_le hj h.size) hne).trans (h.block j hj hne)⟩
theorem own_below {w w' : World} {base : Nat} {E : TypeId} {size n : Nat} {v : Value} {xs : List Value} (h : w.ownsRow base E size v n xs) (hb : Below w.heap.size w w') : w'.ownsRow base E size v n xs :=
  h.kept (grownBy_of_below hb none) (by cases hv : v.ownBlock <;> simp)
/-- An owned slice with an element: its block, the place of each element, free to be written. -/
theorem own_at {w : World} {base : Nat} {E : TypeId} {A : Option Addr} {n c : Nat} {xs : List Value} (h : w.ownsRow base E 1 (.slice A n c) n xs) (h0 : 0 < n) :
    ∃ g, A = some ⟨g, 0, none⟩ ∧ base ≤ g ∧ g < w.heap.size := by
  rcases h.2 with ⟨_, rfl⟩ | ⟨g, cap, cur, hv, hb, hg, _⟩
  · omega
  · cases hv
    refine ⟨g, rfl, hb, ?_⟩
    rcases Nat.lt_or_ge g w.heap.size with h | h
    · exact h
    · rw [Array.getElem?_eq_none h] at hg; cases hg
theorem own_slice {w : World} {base : Nat} {E : TypeId} {size n : Nat} {v : Value} {xs : List Value} (h : w.ownsRow base E size v n xs) : ∃ A c, v = .slice A n c := by
  rcases h.2 with ⟨hv, rfl⟩ | ⟨g, cap, cur, hv, _⟩
  · exact ⟨_, _, hv⟩
  · exact ⟨_, _, hv⟩
theorem own_cap {w : World} {base : Nat} {E : TypeId} {size n c : Nat} {A : Option Addr} {xs : List Value} (h : w.ownsRow base E size (.slice A n c) n xs) : n ≤ c ∧ c ≤ maxLen := by
  rcases h.2 with ⟨hv, rfl⟩ | ⟨g, cap, cur, hv, _, _, h1, h2, _⟩
  · exact ⟨Nat.zero_le _, by cases hv; exact Nat.zero_le _⟩
  · cases hv; exact ⟨h1, h2⟩
/-- What is written into a row that lies from block base on leaves what lies below. -/
theorem below_marked {B base : Nat} {a w w' : World} {E : TypeId} {size n : Nat} {v : Value} {xs : List Value} (h : Below B a w) (ho : w.ownsRow base E size v n xs) (hg : w.grownBy w' v.ownBlock) (hB : B ≤ base) (hs : B ≤ w.heap.size) : Below B a w' :=
  h.grown hg hs (fun k hk => Nat.le_trans hB (ho.lt k hk).1)
/-- Two owned slices of different ages lie in different blocks. -/
theorem own_apart {w : World} {lo lo' hi hi' : Nat} {E E' : TypeId} {s s' n n' : Nat} {v v' : Value} {xs xs' : List Value} (h : w.ownsRow lo E s v n xs) (u : ∀ k, v.ownBlock = some k → k < hi)
    (h' : w.ownsRow lo' E' s' v' n' xs') (u' : ∀ k, v'.ownBlock = some k → k < hi') (ho : hi ≤ lo' ∨ hi' ≤ lo) : v.ownBlock = none ∨ v.ownBlock ≠ v'.ownBlock := by
  cases hv : v.ownBlock with
  | none => exact .inl rfl
  | some k =>
    refine .inr fun e => ?_
    have h1 := (h.lt k hv).1
    have h2 := u k hv
    have h3 := (h'.lt k e.symm).1
    have h4 := u' k e.symm
    omega
/-- Two results lie in different blocks, or one of them in none. -/
def Apart (v v' : Value) : Prop := ∀ k, v.ownBlock = some k → v'.ownBlock ≠ some k
theorem Apart.symm {v v' : Value} (h : Apart v v') : Apart v' v := fun k hk hk' => h k hk' hk
theorem apart_of {v v' : Value} (h : Apart v v') : v.ownBlock = none ∨ v.ownBlock ≠ v'.ownBlock := by
  cases hv : v.ownBlock with
  | none => exact .inl rfl
  | some k => exact .inr fun e => h k hv e.symm
/-- A row of marks: the first n, from K on. -/
def marks (m : Nat → Value) (K n : Nat) : List Value := (List.range' K n).map m
theorem marks_length (m : Nat → Value) (K n : Nat) : (marks m K n).length = n := by simp [marks]
theorem marks_succ (m : Nat → Value) (K n : Nat) : marks m K (n + 1) = marks m K n ++ [m (K + n)] := by
  unfold marks; rw [List.range'_concat]; simp
theorem marks_get (m : Nat → Value) (K n j : Nat) (h : j < (marks m K n).length) : (marks m K n)[j] = m (K + j) := by simp [marks]
theorem marked_set (m : Nat → Value) (K i : Nat) (xs : List Value) (h : i < xs.length) : (marks m K i ++ xs.drop i).set i (m (K + i)) = marks m K (i + 1) ++ xs.drop (i + 1) := by
  rw [List.set_append, if_neg (by rw [marks_length]; omega), marks_length, Nat.sub_self, marks_succ, List.drop_eq_getElem_cons h]
  simp only [List.set_cons_zero, List.append_assoc, List.singleton_append]

/-- The decimal digits of k, put before out. -/
def markOut : Nat → Nat → List UInt8 → List UInt8
  | 0, _, out => out
  | f + 1, k, out => if k = 0 then out else markOut f (k / 10) ((48 + UInt8.ofNat (k % 10)) :: out)
def markT (k : Int) : ByteArray := if k ≤ 0 then ⟨#[109, 48]⟩ else ⟨(109 :: markOut k.toNat k.toNat []).toArray⟩
theorem markOut_zero (f : Nat) (out : List UInt8) : markOut f 0 out = out := by cases f <;> simp [markOut]
theorem markOut_step (f k : Nat) (out : List UInt8) (h : 0 < k) (hf : k ≤ f) : markOut f k out = markOut (f - 1) (k / 10) ((48 + UInt8.ofNat (k % 10)) :: out) := by
  cases f with
  | zero => omega
  | succ f => rw [markOut, if_neg (by omega)]; rfl
def MarkAt (K k : Nat) (out : List UInt8) : Prop := out.length + k ≤ K ∧ ∃ f, k ≤ f ∧ markOut f k out = markOut K K []
theorem MarkAt.start (K : Nat) : MarkAt K K [] := ⟨by simp, K, Nat.le_refl _, rfl⟩
theorem MarkAt.step {K k : Nat} {out : List UInt8} (h : MarkAt K k out) (h0 : 0 < k) : MarkAt K (k / 10) ((48 + UInt8.ofNat (k % 10)) :: out) := by
  obtain ⟨h1, f, h2, h3⟩ := h
  refine ⟨by simp; omega, f - 1, by omega, ?_⟩
  rw [← h3, markOut_step f k out h0 h2]
theorem MarkAt.done {K : Nat} {out : List UInt8} (h : MarkAt K 0 out) (h0 : 0 < K) : (⟨(109 :: out).toArray⟩ : ByteArray) = markT K := by
  obtain ⟨_, f, _, h3⟩ := h
  rw [markOut_zero] at h3
  unfold markT
  rw [if_neg (by omega), h3]; simp

/-- The same of a byte that lies where it was laid. -/
theorem run_byte_at {P : Program} (src dst e : TypeId) (hs : P.underlying src = some (.slice e)) (he : P.underlying e = some (.int .u8)) (hd : P.underlying dst = some .string) (n : Nat) (hn : n < 256) (b : Nat) (w : World) (hc : w.cell? ⟨b, 0, none⟩ = some (.int .u8 n)) :
    (convert src dst (.slice (some ⟨b, 0, none⟩) 1 1)).run P w = .ok (.string ⟨#[UInt8.ofNat n]⟩) w := by
  have h := run_convert_bytes_back (P := P) w src dst e ⟨b, 0, none⟩ 1 [UInt8.ofNat n] hs he hd (fun j hj => by
    obtain rfl : j = 0 := by simpa using hj
    have e1 : ((⟨b, 0, none⟩ : Addr).add 0) = ⟨b, 0, none⟩ := by simp [Addr.add]
    rw [e1, hc]
    simp [Nat.mod_eq_of_lt hn])
  simpa using h
theorem bcell {W w1 : World} (hb : Below W.heap.size W w1) : (∀ b o, b < W.heap.size → w1.cell? ⟨b, o, none⟩ = W.cell? ⟨b, o, none⟩) ∧ (∀ b o, b < W.heap.size → w1.frozen? ⟨b, o, none⟩ = W.frozen? ⟨b, o, none⟩) :=
  ⟨fun b o h => hb.cell (p := ⟨b, o, none⟩) h, fun b o h => hb.frozen (p := ⟨b, o, none⟩) h⟩
/-- A string of the one byte that has just been laid into new memory. -/
theorem run_one_byte {P : Program} (src dst e t : TypeId) (hs : P.underlying src = some (.slice e)) (he : P.underlying e = some (.int .u8)) (hd : P.underlying dst = some .string) (n : Nat) (hn : n < 256) (w : World) :
    (convert src dst (.slice (some ⟨w.heap.size, 0, none⟩) 1 1)).run P (w.alloc (.cells #[.int .u8 n] t)) = .ok (.string ⟨#[UInt8.ofNat n]⟩) (w.alloc (.cells #[.int .u8 n] t)) := by
  have h := run_convert_bytes_back (P := P) (w.alloc (.cells #[.int .u8 n] t)) src dst e ⟨w.heap.size, 0, none⟩ 1 [UInt8.ofNat n] hs he hd (fun j hj => by
    obtain rfl : j = 0 := by simpa using hj
    have e1 : ((⟨w.heap.size, 0, none⟩ : Addr).add 0) = ⟨w.heap.size, 0, none⟩ := by simp [Addr.add]
    rw [e1, World.cell?_alloc_at _ _ _ _ rfl]
    simp [Nat.mod_eq_of_lt hn])
  simpa using h

set_option maxHeartbeats 400000 in
theorem markText_any (K : Nat) (w : World) (h0 : 0 < K) (hK : K < maxLen) :
    Calls Try.prog 84 #[.int .i64 K] w fun e w' => e = .returned (.string (markT K)) ∧ Below w.heap.size w w' := by
  unfold maxLen at hK
  have hcv := fun (n : Nat) (hn : n < 256) (w : World) => run_one_byte (P := Try.prog) 22 9 5 5 Try.underlying22 Try.underlying5 Try.underlying9 n hn w
  have Hcv := Lib.hid hcv
  clear hcv
  go_enter Try.func84, Try.ntmps84
  go_wp2
  go_loopw [0, 3] (fun x s wr => ∃ (k : Nat) (out : List UInt8), x = .int .i64 k ∧ s = .string ⟨out.toArray⟩ ∧ Hid (MarkAt K k out) ∧ Below w.heap.size w wr) (fun x _ _ => (intOf x).toNat)
  case atStart => exact ⟨K, [], rfl, rfl, MarkAt.start K, Below.refl _ _⟩
  case round =>
    obtain ⟨k, out, rfl, rfl, hm, hb⟩ := hrel
    by_cases hlt : 0 < k
    · have hm1 := Lib.hid (hm.out.step hlt)
      have hle := hm.out.1
      have hlt' : (0 : Int) < (k : Int) := by omega
      have hcv1 := Hcv.out (48 + k % 10) (by omega) wr
      have hcast : (((48 + k % 10 : Nat)) : Int) = 48 + (k : Int) % 10 := by omega
      rw [hcast] at hcv1
      clear hcast
      go_wp2
      go_roundw
      case rel => exact ⟨k / 10, (48 + UInt8.ofNat (k % 10)) :: out, by go_num, congrArg Value.string (ByteArray.mk_append_mk [_] out), hm1, hb.alloc hb.size _⟩
      case measure => simp [intOf]; omega
    · obtain rfl : k = 0 := by omega
      have hd := Lib.hid (hm.out.done h0)
      have hle := hm.out.1
      go_wp2
      go_ret
      exact ⟨congrArg (fun s => Ending.returned (.string s)) ((ByteArray.mk_append_mk [109] out).trans hd.out), hb⟩

def markS (k : Nat) : Value := .string (markT k)



/-- How much a list of strings holds: its length and the lengths of its strings. -/
def szTo (xs : List ByteArray) (k : Nat) : Nat := ((xs.take k).map ByteArray.size).sum
def szL (xs : List ByteArray) : Nat := xs.length + szTo xs xs.length
theorem szTo_succ (xs : List ByteArray) (k : Nat) (h : k < xs.length) : szTo xs (k + 1) = szTo xs k + xs[k].size := by
  unfold szTo
  rw [List.take_succ_eq_append_getElem h, List.map_append, List.sum_append]; rfl
theorem szTo_mono (xs : List ByteArray) (k : Nat) : ∀ n, k + n ≤ xs.length → szTo xs k ≤ szTo xs (k + n)
  | 0, _ => Nat.le_refl _
  | n + 1, h => by
    have h1 := szTo_mono xs k n (by omega)
    have h2 := szTo_succ xs (k + n) (by omega)
    rw [← Nat.add_assoc, h2]; omega
theorem szTo_le (xs : List ByteArray) (k : Nat) (h : k ≤ xs.length) : szTo xs k ≤ szTo xs xs.length := by
  have := szTo_mono xs k (xs.length - k) (by omega)
  rwa [Nat.add_sub_cancel' h] at this

/-- A slice of strings that came in: what it reads as. -/
def IsStrs (w : World) (A : Option Addr) (len : Nat) (xs : List ByteArray) : Prop := xs.length = len ∧ len ≤ maxLen ∧ Reads w A (xs.map .string) ∧ ∀ s ∈ xs, s.size ≤ maxLen
theorem isStrs_of {P : Program} {H : Type} {enc : TypeId × Value → H} {w : World} {t e : TypeId} {A : Option Addr} {len cap : Nat} {d : DataW H} {ps : List MemPlace} {sp : Nat → Bool} {hd : Bool}
    (ht : P.underlying t = some (.slice e)) (he : P.underlying e = some .string) (hc : P.cellsOf e = 1) (h : DataW.Trod enc P w 0 sp hd t (Value.slice A len cap) d ps) : ∃ xs, IsStrs w A len xs := by
  obtain ⟨fuel, hf⟩ := h
  rcases Go.ChangeShapes.open_strings ht he hc hf with ⟨hcs, _⟩ | ⟨x, l, c, ss, hcs, _, hl, hm, hz, _, hcell, hws⟩
  · simp [Value.cells] at hcs
    obtain ⟨rfl, rfl, rfl⟩ := hcs
    exact ⟨[], rfl, Nat.zero_le _, .inl rfl, by simp⟩
  · simp [Value.cells] at hcs
    obtain ⟨rfl, rfl, rfl⟩ := hcs
    have hle : len ≤ ss.length := by rw [hz]; split <;> omega
    refine ⟨ss.take len, by simp; omega, by omega, ?_, fun s hs => hws s (List.mem_of_mem_take hs)⟩
    by_cases h0 : len = 0
    · subst h0; exact .inl (by simp)
    · obtain ⟨b, o, spot⟩ := x
      have h1 := hcell 0 (by omega)
      have hspot : spot = none := by simpa [Addr.add] using World.cell?_spot h1
      subst hspot
      refine .inr ⟨b, o, rfl, ?_, fun j hj => ?_⟩
      · have := World.block_lt_of_cell? _ _ h1
        simpa [Addr.add] using this
      · simp at hj
        have h2 := hcell j (by omega)
        have e1 : ((⟨b, o, none⟩ : Addr).add j) = ⟨b, o + j, none⟩ := by
          by_cases hj0 : j = 0
          · subst hj0; simp [Addr.add]
          · simp [Addr.add, hj0]
        rw [e1] at h2
        rw [h2]
        simp [List.getD, List.getElem?_eq_getElem (show j < ss.length by omega)]


theorem Try.infoS : (Try.prog.info? 9).map (fun i => (i.zero, i.size, i.bytes)) = some (some (.string ⟨#[]⟩), 1, 16) := by kernel_rfl
theorem copied_set (xs ys : List Value) (i : Nat) (h : i < xs.length) (h2 : i < ys.length) : (xs.take i ++ ys.drop i).set i xs[i] = xs.take (i + 1) ++ ys.drop (i + 1) := by
  rw [List.set_append, if_neg (by simp; omega), List.length_take, Nat.min_eq_left (by omega), Nat.sub_self, List.drop_eq_getElem_cons h2, List.take_succ_eq_append_getElem h]
  simp only [List.set_cons_zero, List.append_assoc, List.singleton_append]

end Go.Proofs.Ytipmeijfmiiedaa
namespace Go.Proofs.Ytipmeijfmiiedaa
set_option maxRecDepth 100000
open Go.RowKit

theorem Try.infoI : (Try.prog.info? 3).map (fun i => (i.zero, i.size, i.bytes)) = some (some (.int .i64 0), 1, 8) := by kernel_rfl
def markI (k : Nat) : Value := .int .i64 k
/-- A slice of ints that came in. -/
def IsInts (w : World) (A : Option Addr) (len : Nat) (xs : List Int) : Prop := xs.length = len ∧ len ≤ maxLen ∧ Reads w A (xs.map (.int .i64)) ∧ ∀ z ∈ xs, -9223372036854775808 ≤ z ∧ z ≤ 9223372036854775807
theorem isInts_of {P : Program} {H : Type} {enc : TypeId × Value → H} {w : World} {t e : TypeId} {A : Option Addr} {len cap : Nat} {d : DataW H} {ps : List MemPlace} {sp : Nat → Bool} {hd : Bool}
    (ht : P.underlying t = some (.slice e)) (he : P.underlying e = some (.int .i64)) (hc : P.cellsOf e = 1) (h : DataW.Trod enc P w 0 sp hd t (Value.slice A len cap) d ps) : ∃ xs, IsInts w A len xs := by
  obtain ⟨fuel, hf⟩ := h
  rcases Go.ChangeShapes.open_ints ht he hc hf with ⟨hcs, _⟩ | ⟨x, l, c, ss, hcs, _, hl, hm, hz, _, hcell, hws⟩
  · simp [Value.cells] at hcs
    obtain ⟨rfl, rfl, rfl⟩ := hcs
    exact ⟨[], rfl, Nat.zero_le _, .inl rfl, by simp⟩
  · simp [Value.cells] at hcs
    obtain ⟨rfl, rfl, rfl⟩ := hcs
    have hle : len ≤ ss.length := by rw [hz]; split <;> omega
    refine ⟨ss.take len, by simp; omega, by omega, ?_, fun z hz => bounds_i64 (hws z (List.mem_of_mem_take hz))⟩
    by_cases h0 : len = 0
    · subst h0; exact .inl (by simp)
    · obtain ⟨b, o, spot⟩ := x
      have h1 := hcell 0 (by omega)
      have hspot : spot = none := by simpa [Addr.add] using World.cell?_spot h1
      subst hspot
      refine .inr ⟨b, o, rfl, ?_, fun j hj => ?_⟩
      · have := World.block_lt_of_cell? _ _ h1
        simpa [Addr.add] using this
      · simp at hj
        have h2 := hcell j (by omega)
        have e1 : ((⟨b, o, none⟩ : Addr).add j) = ⟨b, o + j, none⟩ := by
          by_cases hj0 : j = 0
          · subst hj0; simp [Addr.add]
          · simp [Addr.add, hj0]
        rw [e1] at h2
        rw [h2]
        simp [List.getD, List.getElem?_eq_getElem (show j < ss.length by omega)]
theorem ints_are (xs : List Int) : ∀ x ∈ xs.map (Value.int .i64), ∃ z, x = Value.int .i64 z := by simp

set_option maxHeartbeats 400000 in
theorem eqIntS_same (A1 A2 : Option Addr) (n c1 c2 : Nat) (xs : List Int) (w : World) (hn : xs.length = n) (hm : n ≤ maxLen) (h1 : Reads w A1 (xs.map (.int .i64))) (h2 : Reads w A2 (xs.map (.int .i64))) :
    Calls Try.prog 25 #[.slice A1 n c1, .slice A2 n c2] w fun e w' => e = .returned (.bool true) ∧ Below w.heap.size w w' := by
  subst hn
  unfold maxLen at hm
  go_enter Try.func25, Try.ntmps25
  go_wp2
  go_loopw [5] (fun i wr => ∃ k n : Nat, wr = w.drewN n ∧ k ≤ xs.length ∧ i = .int .i64 k) (fun i _ => xs.length - (intOf i).toNat)
  case atStart => exact ⟨0, 0, rfl, Nat.zero_le _, rfl⟩
  case round =>
    obtain ⟨k, n, rfl, hk, rfl⟩ := hrel
    by_cases hlt : k < xs.length
    · obtain ⟨b1, o1, rfl, hb1, hc1⟩ := h1.at_ (by simp; omega)
      obtain ⟨b2, o2, rfl, hb2, hc2⟩ := h2.at_ (by simp; omega)
      have g1 : w.cell? ⟨b1, o1 + k, none⟩ = some (.int .i64 xs[k]) := (hc1 k (by simpa using hlt)).trans (by simp)
      have g2 : w.cell? ⟨b2, o2 + k, none⟩ = some (.int .i64 xs[k]) := (hc2 k (by simpa using hlt)).trans (by simp)
      have hk0 : (0 : Int) ≤ (k : Int) := by omega
      have hk1 : (k : Int) < (xs.length : Int) := by omega
      have H1 := Lib.hid h1
      have H2 := Lib.hid h2
      clear hc1 hc2 h1 h2
      go_wp2
      go_quiet (fail)
      go_wp2
      go_roundw
      case rel => exact ⟨k + 1, _, rfl, by omega, by go_num⟩
      case measure => simp [intOf]; omega
    · go_wp2
      go_ret
      exact ⟨rfl, below_drewN (Below.refl _ _) _⟩

set_option maxHeartbeats 400000 in
theorem markIntS_own (base : Nat) (A : Option Addr) (n c K : Nat) (xs : List Value) (w : World) (hK : K + n < maxLen) (hown : w.ownsRow base 3 1 (.slice A n c) n xs) (hxs : ∀ x ∈ xs, ∃ z, x = Value.int .i64 z) :
    Calls Try.prog 28 #[.slice A n c, .int .i64 K] w fun e w' => e = .returned (.int .i64 ((K + n : Nat) : Int)) ∧ w'.ownsRow base 3 1 (.slice A n c) n (marks markI K n) ∧ w.grownBy w' (Value.slice A n c).ownBlock := by
  have hlen : xs.length = n := by simpa using hown.1
  unfold maxLen at hK
  have Hlen := Lib.hid hlen
  have Hxs := Lib.hid hxs
  clear hlen hxs
  go_enter Try.func28, Try.ntmps28
  go_wp2_with fail
  go_loopw [1, 5] (fun x y wr => ∃ i : Nat, i ≤ n ∧ x = .int .i64 ((K + i : Nat) : Int) ∧ y = .int .i64 i ∧ Hid (wr.ownsRow base 3 1 (.slice A n c) n (marks markI K i ++ xs.drop i)) ∧ Hid (w.grownBy wr (Value.slice A n c).ownBlock)) (fun _ y _ => n - (intOf y).toNat)
  case atStart => exact ⟨0, Nat.zero_le _, rfl, rfl, by simpa [marks] using Lib.hid hown, World.grownBy.refl _ _⟩
  case round =>
    obtain ⟨i, hi, rfl, rfl, ho, hg⟩ := hrel
    by_cases hlt : i < n
    · obtain ⟨g, rfl, hbase, hgs⟩ := own_at ho.out (by omega)
      have hi0 : (0 : Int) ≤ (i : Int) := by omega
      have hi1 : (i : Int) < (n : Int) := by omega
      have hfr := ho.out.frozenAt i
      have hcl := ho.out.cellAt i (by omega)
      have hix : i < xs.length := by rw [Hlen.out]; exact hlt
      rw [List.getElem?_append_right (by rw [marks_length]; exact Nat.le_refl _), marks_length, Nat.sub_self, List.drop_eq_getElem_cons hix] at hcl
      obtain ⟨z, hz⟩ := Hxs.out _ (List.getElem_mem hix)
      rw [hz] at hcl
      have hcell : wr.cell? ⟨g, i, none⟩ = some (.int .i64 z) := hcl
      have hst := ho.out.stored i (markI (K + i))
      rw [marked_set markI K i xs hix] at hst
      have hg2 := Lib.hid (grownBy_trans hg.out hst.2)
      have ho2 := Lib.hid hst.1
      clear hst hcl hz
      go_wp2_with fail
      go_roundw
      case rel => exact ⟨i + 1, by omega, by go_num, by go_num, ho2, hg2⟩
      case measure => simp [intOf]; omega
    · obtain rfl : i = n := by omega
      go_wp2_with fail
      go_ret
      exact ⟨rfl, by have := ho.out; rwa [List.drop_eq_nil_of_le (by rw [Hlen.out]; omega), List.append_nil] at this, hg.out⟩

set_option maxHeartbeats 400000 in
theorem heldIntS_same (A : Option Addr) (n c K : Nat) (w : World) (hK : K + n < maxLen) (hr : Reads w A (marks markI K n)) :
    Calls Try.prog 29 #[.slice A n c, .int .i64 K] w fun e w' => e = .returned (.int .i64 ((K + n : Nat) : Int)) ∧ Below w.heap.size w w' := by
  unfold maxLen at hK
  have Hr := Lib.hid hr
  clear hr
  go_enter Try.func29, Try.ntmps29
  go_wp2_with fail
  go_loop [1, 5] (fun x y => ∃ i : Nat, i ≤ n ∧ x = .int .i64 ((K + i : Nat) : Int) ∧ y = .int .i64 i) (fun _ y => n - (intOf y).toNat)
  case atStart => exact ⟨0, Nat.zero_le _, rfl, rfl⟩
  case round =>
    obtain ⟨i, hi, rfl, rfl⟩ := hrel
    by_cases hlt : i < n
    · obtain ⟨b, o, rfl, hbs, hc⟩ := Hr.out.at_ (by rw [marks_length]; omega)
      have hcell : w.cell? ⟨b, o + i, none⟩ = some (.int .i64 ((K + i : Nat) : Int)) := by
        have := hc i (by rw [marks_length]; exact hlt)
        rwa [marks_get] at this
      have hi0 : (0 : Int) ≤ (i : Int) := by omega
      have hi1 : (i : Int) < (n : Int) := by omega
      clear hc
      go_wp2_with fail
      go_round
      case rel => exact ⟨i + 1, by omega, by go_num, by go_num⟩
      case measure => simp [intOf]; omega
    · obtain rfl : i = n := by omega
      go_wp2_with fail
      go_ret
      exact ⟨rfl, Below.refl _ _⟩

set_option maxHeartbeats 400000 in
theorem toIntS_any (A : Option Addr) (n c : Nat) (xs : List Int) (w : World) (hn : xs.length = n) (hm : n ≤ 1048576) (hr : Reads w A (xs.map (.int .i64))) :
    Calls Try.prog 22 #[.slice A n c] w fun e w' => ∃ v, e = .returned v ∧ w'.ownsRow w.heap.size 3 1 v n (xs.map (.int .i64)) ∧ Below w.heap.size w w' := by
  obtain ⟨i0, hi, hz0, hz1, hz2⟩ := info_parts Try.infoI
  have Hn := Lib.hid hn
  have Hr := Lib.hid hr
  clear hn hr
  go_enter Try.func22, Try.ntmps22
  go_wp2_with (refine wpList_make_full _ rfl _ _ 27 rfl w.heap.size 3 i0 (.int .i64 0) 1 Try.underlying27 hi hz0 hz1 _ _ _ _ n rfl rfl rfl rfl ?c1 ?c2 ?c3 ?_)
  case c1 => rw [hz2]; omega
  case c2 => unfold maxLen; omega
  case c3 => exact Nat.le_refl _
  intro w1 ho hg
  obtain ⟨ys, ho⟩ : ∃ ys, w1.ownsRow w.heap.size 3 1 (.slice (some ⟨w.heap.size, 0, none⟩) n n) n ys := ⟨_, ho⟩
  have hlen := ho.1
  have Hlen := Lib.hid hlen
  have B1 := Lib.hid ((Below.refl w.heap.size w).grown hg (Nat.le_refl _) (fun k hk => by cases hk))
  have O1 := Lib.hid ho
  clear ho hg hlen
  go_wp2_with fail
  go_loopw [4] (fun y wr => ∃ i : Nat, i ≤ n ∧ y = .int .i64 i ∧ Hid (wr.ownsRow w.heap.size 3 1 (.slice (some ⟨w.heap.size, 0, none⟩) n n) n ((xs.map (Value.int .i64)).take i ++ ys.drop i)) ∧ Hid (Below w.heap.size w wr)) (fun y _ => n - (intOf y).toNat)
  case atStart => exact ⟨0, Nat.zero_le _, rfl, by simpa using O1, B1⟩
  case round =>
    obtain ⟨i, hle, rfl, ho, hb⟩ := hrel
    by_cases hlt : i < n
    · obtain ⟨b, o, rfl, hbs, hc⟩ := (Hr.out.below hb.out).at_ (by simp; rw [Hn.out]; omega)
      have hix : i < (xs.map (Value.int .i64)).length := by rw [List.length_map, Hn.out]; exact hlt
      have hiy : i < ys.length := by rw [Hlen.out]; omega
      obtain ⟨u, hu⟩ : ∃ u, Value.int .i64 u = (xs.map (Value.int .i64))[i] := ⟨xs[i]'(by simpa using hix), by simp⟩
      have hcell : wr.cell? ⟨b, o + i, none⟩ = some (.int .i64 u) := hu ▸ hc i hix
      have hi0 : (0 : Int) ≤ (i : Int) := by omega
      have hi1 : (i : Int) < (n : Int) := by omega
      have hfr := ho.out.frozenAt i
      have hcl := ho.out.cellAt i (by omega)
      rw [List.getElem?_eq_getElem (by simp [Hlen.out, Hn.out]; omega)] at hcl
      obtain ⟨old, hold⟩ : ∃ old, wr.cell? ⟨w.heap.size, i, none⟩ = some old := ⟨_, hcl⟩
      have hst := ho.out.stored i (.int .i64 u)
      rw [hu, copied_set _ ys i hix hiy, ← hu] at hst
      have ho2 := Lib.hid hst.1
      have hb2 := Lib.hid (below_marked hb.out ho.out hst.2 (Nat.le_refl _) hb.out.size)
      clear hst hcl hc hu
      go_wp2_with fail
      go_roundw
      case rel => exact ⟨i + 1, by omega, by go_num, ho2, hb2⟩
      case measure => simp [intOf]; omega
    · obtain rfl : i = n := by omega
      have ho2 := ho.out
      rw [List.take_of_length_le (by rw [List.length_map, Hn.out]; omega), List.drop_eq_nil_of_le (by rw [Hlen.out]; omega), List.append_nil] at ho2
      have O2 := Lib.hid ho2
      clear ho2
      go_wp2_with fail
      go_ret
      exact ⟨_, rfl, O2.out, hb.out⟩

theorem marks_ints (K n : Nat) : ∀ x ∈ marks markI K n, ∃ z, x = Value.int .i64 z := by
  intro x hx
  unfold marks at hx
  obtain ⟨j, _, rfl⟩ := List.mem_map.1 hx
  exact ⟨_, rfl⟩
/-- A slice of ints that is handed to a function. -/
def InI (w : World) (A : Option Addr) (n : Nat) (xs : List Int) : Prop := xs.length = n ∧ n ≤ 1048576 ∧ Reads w A (xs.map (.int .i64)) ∧ ∀ z ∈ xs, -9223372036854775808 ≤ z ∧ z ≤ 9223372036854775807
/-- A slice of ints that a call hands back: in memory of its own. -/
def ResI (w w' : World) (v : Value) (rs : List Int) : Prop := rs.length ≤ 4194304 ∧ w'.ownsRow w.heap.size 3 1 v rs.length (rs.map (.int .i64))
end Go.Proofs.Ytipmeijfmiiedaa
namespace Go.Proofs.Ytipmeijfmiiedaa
set_option maxRecDepth 100000

/-- What a list of limbs is worth. -/
def val : List Int → Int
  | [] => 0
  | d :: r => d + 1000000000 * val r
def pw : Nat → Int
  | 0 => 1
  | k + 1 => 1000000000 * pw k
def InR (l : List Int) : Prop := ∀ d ∈ l, 0 ≤ d ∧ d ≤ 999999999
/-- A natural number's list: limbs in range, no zero at its end. -/
def Canon (l : List Int) : Prop := InR l ∧ l.getLast? ≠ some 0
theorem pw_pos : ∀ k, 0 < pw k
  | 0 => by decide
  | k + 1 => by have := pw_pos k; unfold pw; omega
theorem pw_add (a b : Nat) : pw (a + b) = pw a * pw b := by
  induction a with
  | zero => simp [pw]
  | succ a ih => rw [Nat.succ_add, pw, pw, ih, Int.mul_assoc]
theorem InR.cons {d : Int} {r : List Int} (h : InR (d :: r)) : (0 ≤ d ∧ d ≤ 999999999) ∧ InR r := ⟨h d (by simp), fun x hx => h x (by simp [hx])⟩
theorem InR.append {l r : List Int} (h : InR l) (k : InR r) : InR (l ++ r) := fun d hd => by
  rcases List.mem_append.1 hd with hd | hd
  · exact h d hd
  · exact k d hd
theorem InR.one {d : Int} (h0 : 0 ≤ d) (h1 : d ≤ 999999999) : InR [d] := fun x hx => by
  have : x = d := by simpa using hx
  subst this; exact ⟨h0, h1⟩
theorem InR.nil : InR [] := fun _ h => by cases h
theorem InR.take {l : List Int} (h : InR l) (k : Nat) : InR (l.take k) := fun d hd => h d (List.mem_of_mem_take hd)
theorem InR.drop {l : List Int} (h : InR l) (k : Nat) : InR (l.drop k) := fun d hd => h d (List.mem_of_mem_drop hd)
theorem val_append (l r : List Int) : val (l ++ r) = val l + pw l.length * val r := by
  induction l with
  | nil => simp [val, pw]
  | cons d l ih =>
    rw [List.cons_append, val, ih, val, List.length_cons, pw, Int.mul_add, Int.mul_assoc]; omega
theorem val_snoc (l : List Int) (d : Int) : val (l ++ [d]) = val l + pw l.length * d := by rw [val_append]; simp [val]
theorem val_nonneg : ∀ {l : List Int}, InR l → 0 ≤ val l
  | [], _ => Int.le_refl _
  | d :: r, h => by
    have h1 := h.cons
    have h2 := val_nonneg h1.2
    unfold val; omega
theorem val_lt : ∀ {l : List Int}, InR l → val l < pw l.length
  | [], _ => by simp [val, pw]
  | d :: r, h => by
    have h1 := h.cons
    have h2 := val_lt h1.2
    rw [List.length_cons, pw]; unfold val; omega
theorem canon_nil : Canon [] := ⟨InR.nil, by simp⟩
theorem Canon.tail {d : Int} {r : List Int} (h : Canon (d :: r)) : Canon r := by
  refine ⟨h.1.cons.2, fun e => ?_⟩
  cases r with
  | nil => simp at e
  | cons x r => exact h.2 (by rw [List.getLast?_cons_cons]; exact e)
theorem canon_zero : ∀ {l : List Int}, Canon l → val l = 0 → l = []
  | [], _, _ => rfl
  | d :: r, h, hv => by
    have h1 := h.1.cons
    have h2 := val_nonneg h1.2
    unfold val at hv
    have h3 : val r = 0 := by omega
    have h4 := canon_zero h.tail h3
    subst h4
    exact absurd (show [d].getLast? = some 0 by simp; omega) h.2
theorem canon_unique : ∀ {l m : List Int}, Canon l → Canon m → val l = val m → l = m
  | [], m, _, hm, h => (canon_zero hm h.symm).symm
  | d :: r, [], hl, _, h => canon_zero hl h
  | d :: r, e :: s, hl, hm, h => by
    have h1 := hl.1.cons
    have h2 := hm.1.cons
    unfold val at h
    have hd : d = e := by omega
    subst hd
    rw [canon_unique hl.tail hm.tail (by omega)]
theorem Canon.snoc {l : List Int} {d : Int} (h : InR l) (h0 : 0 < d) (h1 : d ≤ 999999999) : Canon (l ++ [d]) :=
  ⟨h.append (InR.one (by omega) h1), by simp; omega⟩
theorem canon_lower {l : List Int} (h : Canon l) (h0 : l ≠ []) : pw (l.length - 1) ≤ val l := by
  obtain ⟨m, d, rfl⟩ : ∃ m d, l = m ++ [d] := ⟨l.dropLast, l.getLast h0, (List.dropLast_concat_getLast h0).symm⟩
  have hm : InR m := fun x hx => h.1 x (by simp [hx])
  have hd := h.1 d (by simp)
  have hd0 : d ≠ 0 := fun e => h.2 (by simp [e])
  rw [val_snoc]
  have h1 := val_nonneg hm
  have h2 := pw_pos m.length
  have h3 : pw m.length * 1 ≤ pw m.length * d := Int.mul_le_mul_of_nonneg_left (by omega) (by omega)
  simp; omega
theorem pw_mono {a b : Nat} (h : a ≤ b) : pw a ≤ pw b := by
  obtain ⟨c, rfl⟩ := Nat.le.dest h
  rw [pw_add]
  have h1 := pw_pos a
  have h2 := pw_pos c
  have h3 : pw a * 1 ≤ pw a * pw c := Int.mul_le_mul_of_nonneg_left (by omega) (by omega)
  omega

/-- What NatOf returns. -/
def NatOfIs (n : Int) (r : List Int) : Prop := Canon r ∧ val r = if n ≤ 0 then 0 else n
theorem natOf_unique {n : Int} {r r' : List Int} (h : NatOfIs n r) (h' : NatOfIs n r') : r = r' := canon_unique h.1 h'.1 (h.2.trans h'.2.symm)

/-- A natural number of at most 60 limbs. -/
def Ok (l : List Int) : Prop := Canon l ∧ l.length ≤ 60
def NatOkIs (l : List Int) (b : Bool) : Prop := b = true ↔ Ok l
theorem natOk_unique {l : List Int} {b b' : Bool} (h : NatOkIs l b) (h' : NatOkIs l b') : b = b' := by
  unfold NatOkIs at h h'
  rw [Bool.eq_iff_iff, h, h']
theorem InR.snoc_take {l : List Int} {k : Nat} (h : InR (l.take k)) (hk : k < l.length) (h0 : 0 ≤ l[k]) (h1 : l[k] ≤ 999999999) : InR (l.take (k + 1)) := by
  rw [List.take_succ_eq_append_getElem hk]; exact h.append (InR.one h0 h1)
theorem not_inR {l : List Int} {k : Nat} (hk : k < l.length) (h : l[k] < 0 ∨ 999999999 < l[k]) : ¬ InR l := fun hi => by
  have := hi _ (List.getElem_mem hk); omega
theorem last_at {l : List Int} {m : Nat} (h : l.length = m + 1) : l.getLast? = some (l[m]'(by omega)) := by
  rw [List.getLast?_eq_getElem?, show l.length - 1 = m by omega, List.getElem?_eq_getElem (by omega)]

/-- The first m limbs, behind which all are zero. -/
def ZeroFrom (l : List Int) (m : Nat) : Prop := ∀ j (h : j < l.length), m ≤ j → l[j] = 0
theorem zeroFrom_pred {l : List Int} {m : Nat} (h : ZeroFrom l (m + 1)) (hm : m < l.length) (h0 : l[m] = 0) : ZeroFrom l m := by
  intro j hj hle
  by_cases e : j = m
  · subst e; exact h0
  · exact h j hj (by omega)
theorem val_zero : ∀ {l : List Int}, (∀ d ∈ l, d = 0) → val l = 0
  | [], _ => rfl
  | d :: r, h => by
    have h1 := h d (by simp)
    have h2 := val_zero (l := r) (fun x hx => h x (by simp [hx]))
    unfold val; omega
theorem val_trim {l : List Int} {m : Nat} (h : ZeroFrom l m) : val (l.take m) = val l := by
  have h1 : val (l.drop m) = 0 := val_zero (fun d hd => by
    obtain ⟨j, hj, rfl⟩ := List.mem_iff_getElem.1 hd
    rw [List.getElem_drop]; exact h _ _ (by omega))
  conv => rhs; rw [← List.take_append_drop m l]
  rw [val_append, h1]; simp
/-- l cut to its first m limbs: none but zeros is cut off, no zero stands at the end. -/
def Trimmed (l : List Int) (m : Nat) : Prop := m ≤ l.length ∧ ZeroFrom l m ∧ (l.take m).getLast? ≠ some 0
theorem Trimmed.canon {l : List Int} {m : Nat} (h : Trimmed l m) (hr : InR l) : Canon (l.take m) ∧ val (l.take m) = val l := ⟨⟨hr.take m, h.2.2⟩, val_trim h.2.1⟩
theorem take_last {l : List Int} {m : Nat} (h : m < l.length) : (l.take (m + 1)).getLast? = some l[m] := by
  rw [List.take_succ_eq_append_getElem h, List.getLast?_append, List.getLast?_singleton]; rfl
/-- What has more than 60 limbs is cut to nothing. -/
def cap (l : List Int) : List Int := if 60 < l.length then [] else l

def cmpV (x y : Int) : Int := if x < y then -1 else if x = y then 0 else 1
theorem cmpV_lt {x y : Int} (h : x < y) : cmpV x y = -1 := by unfold cmpV; rw [if_pos h]
theorem cmpV_gt {x y : Int} (h : y < x) : cmpV x y = 1 := by unfold cmpV; rw [if_neg (by omega), if_neg (by omega)]
theorem cmpV_eq {x y : Int} (h : x = y) : cmpV x y = 0 := by unfold cmpV; rw [if_neg (by omega), if_pos h]
theorem shorter_lt {l m : List Int} (hl : InR l) (hm : Canon m) (h : l.length < m.length) : val l < val m := by
  have h1 := val_lt hl
  have h2 := canon_lower hm (by intro e; subst e; simp at h)
  have h3 := pw_mono (show l.length ≤ m.length - 1 by omega)
  omega
/-- The first place from the top at which two lists of one length part decides. -/
theorem top_lt {l m : List Int} {k : Nat} (hl : InR l) (hm : InR m) (hk : k < l.length) (hkm : k < m.length) (hd : l.drop (k + 1) = m.drop (k + 1)) (h : l[k] < m[k]) : val l < val m := by
  have e1 : l = l.take k ++ (l[k] :: l.drop (k + 1)) := by rw [← List.drop_eq_getElem_cons hk, List.take_append_drop]
  have e2 : m = m.take k ++ (m[k] :: m.drop (k + 1)) := by rw [← List.drop_eq_getElem_cons hkm, List.take_append_drop]
  have v1 : val l = val (l.take k) + pw k * (l[k] + 1000000000 * val (l.drop (k + 1))) := by
    conv => lhs; rw [e1]
    rw [val_append, List.length_take, Nat.min_eq_left (by omega)]; rfl
  have v2 : val m = val (m.take k) + pw k * (m[k] + 1000000000 * val (m.drop (k + 1))) := by
    conv => lhs; rw [e2]
    rw [val_append, List.length_take, Nat.min_eq_left (by omega)]; rfl
  have b1 := val_lt (hl.take k)
  rw [List.length_take, Nat.min_eq_left (by omega)] at b1
  have b2 := val_nonneg (hm.take k)
  rw [v1, v2, hd]
  have h3 : pw k * (l[k] + 1000000000 * val (m.drop (k + 1)) + 1) ≤ pw k * (m[k] + 1000000000 * val (m.drop (k + 1))) :=
    Int.mul_le_mul_of_nonneg_left (by omega) (by have := pw_pos k; omega)
  rw [Int.mul_add _ _ 1, Int.mul_one] at h3
  omega
theorem drop_step {l m : List Int} {k : Nat} (hk : k < l.length) (hkm : k < m.length) (hd : l.drop (k + 1) = m.drop (k + 1)) (h : l[k] = m[k]) : l.drop k = m.drop k := by
  rw [List.drop_eq_getElem_cons hk, List.drop_eq_getElem_cons hkm, hd, h]
/-- What NatCmp returns. -/
def NatCmpIs (a b : List Int) (r : Int) : Prop := (Ok a ∧ Ok b ∧ r = cmpV (val a) (val b)) ∨ (¬ (Ok a ∧ Ok b) ∧ r = 0)
theorem natCmp_unique {a b : List Int} {r r' : Int} (h : NatCmpIs a b r) (h' : NatCmpIs a b r') : r = r' := by
  rcases h with ⟨h1, h2, h3⟩ | ⟨h1, h3⟩ <;> rcases h' with ⟨h4, h5, h6⟩ | ⟨h4, h6⟩
  · rw [h3, h6]
  · exact absurd ⟨h1, h2⟩ h4
  · exact absurd ⟨h4, h5⟩ h1
  · rw [h3, h6]

/-- What an operation returns that asks P and is worth t: the list of t, cut to nothing beyond 60 limbs; nothing where P fails. -/
def BinIs (P : Prop) (t : Int) (r : List Int) : Prop := (P ∧ ∃ l, Canon l ∧ val l = t ∧ r = cap l) ∨ (¬ P ∧ r = [])
theorem binIs_unique {P : Prop} {t : Int} {r r' : List Int} (h : BinIs P t r) (h' : BinIs P t r') : r = r' := by
  rcases h with ⟨h1, l, h2, h3, rfl⟩ | ⟨h1, rfl⟩ <;> rcases h' with ⟨h4, m, h5, h6, rfl⟩ | ⟨h4, rfl⟩
  · rw [canon_unique h2 h5 (h3.trans h6.symm)]
  · exact absurd h1 h4
  · exact absurd h4 h1
  · rfl
def NatAddIs (a b r : List Int) : Prop := BinIs (Ok a ∧ Ok b) (val a + val b) r
def NatSubIs (a b r : List Int) : Prop := BinIs (Ok a ∧ Ok b ∧ val b ≤ val a) (val a - val b) r
def NatMulIs (a b r : List Int) : Prop := BinIs (Ok a ∧ Ok b) (val a * val b) r
theorem natAdd_unique {a b r r' : List Int} (h : NatAddIs a b r) (h' : NatAddIs a b r') : r = r' := binIs_unique h h'
theorem natSub_unique {a b r r' : List Int} (h : NatSubIs a b r) (h' : NatSubIs a b r') : r = r' := binIs_unique h h'
theorem natMul_unique {a b r r' : List Int} (h : NatMulIs a b r) (h' : NatMulIs a b r') : r = r' := binIs_unique h h'
theorem Canon.ok {l : List Int} (h : Canon l) (h60 : l.length ≤ 60) : Ok l ∧ cap l = l := ⟨⟨h, h60⟩, by unfold cap; rw [if_neg (by omega)]⟩

theorem val_set : ∀ (l : List Int) (k : Nat) (d : Int) (h : k < l.length), val (l.set k d) = val l + pw k * (d - l[k])
  | a :: r, 0, d, _ => by simp [val, pw]; omega
  | a :: r, k + 1, d, h => by
    have ih := val_set r k d (by simpa using h)
    rw [List.set_cons_succ, val, val, ih, pw, List.getElem_cons_succ, Int.mul_add, Int.mul_assoc]; omega
theorem InR.set {l : List Int} (h : InR l) (k : Nat) {d : Int} (h0 : 0 ≤ d) (h1 : d ≤ 999999999) : InR (l.set k d) := fun x hx => by
  rcases List.mem_or_eq_of_mem_set hx with hx | rfl
  · exact h x hx
  · exact ⟨h0, h1⟩
theorem ZeroFrom.set {l : List Int} {m k : Nat} (h : ZeroFrom l m) (hk : k < m) (d : Int) : ZeroFrom (l.set k d) m := fun j hj hle => by
  rw [List.getElem_set_ne (by omega)]; exact h j (by simpa using hj) hle
theorem ZeroFrom.set_last {l : List Int} {m : Nat} (h : ZeroFrom l m) (d : Int) : ZeroFrom (l.set m d) (m + 1) := fun j hj hle => by
  rw [List.getElem_set_ne (by omega)]; exact h j (by simpa using hj) (by omega)
theorem prod_bd {x y : Int} (x0 : 0 ≤ x) (x1 : x ≤ 999999999) (y0 : 0 ≤ y) (y1 : y ≤ 999999999) : 0 ≤ x * y ∧ x * y ≤ 999999998000000001 := by
  have h1 := Int.mul_nonneg x0 y0
  have h2 : x * y ≤ 999999999 * y := Int.mul_le_mul_of_nonneg_right x1 y0
  omega

/-- Place k of a list, 0 behind its end. -/
def lim (l : List Int) (k : Nat) : Int := l.getD k 0
theorem val_take_succ (l : List Int) (k : Nat) : val (l.take (k + 1)) = val (l.take k) + pw k * lim l k := by
  unfold lim
  by_cases h : k < l.length
  · rw [List.take_succ_eq_append_getElem h, val_snoc, List.length_take, Nat.min_eq_left (by omega), List.getD_eq_getElem?_getD, List.getElem?_eq_getElem h]; rfl
  · rw [List.take_of_length_le (by omega), List.take_of_length_le (by omega), List.getD_eq_getElem?_getD, List.getElem?_eq_none (by omega)]; simp
theorem lim_bd {l : List Int} (h : InR l) (k : Nat) : 0 ≤ lim l k ∧ lim l k ≤ 999999999 := by
  unfold lim
  by_cases hk : k < l.length
  · rw [List.getD_eq_getElem?_getD, List.getElem?_eq_getElem hk]; exact h _ (List.getElem_mem hk)
  · rw [List.getD_eq_getElem?_getD, List.getElem?_eq_none (by omega)]; decide
end Go.Proofs.Ytipmeijfmiiedaa
namespace Go.Proofs.Ytipmeijfmiiedaa
set_option maxRecDepth 100000

theorem val_drop_at {l : List Int} {k : Nat} (h : k < l.length) : val (l.drop k) = l[k] + 1000000000 * val (l.drop (k + 1)) := by
  rw [List.drop_eq_getElem_cons h]; rfl
theorem val_drop_le : ∀ {l : List Int}, InR l → ∀ k, val (l.drop k) ≤ val l
  | [], _, k => by simp
  | d :: r, h, 0 => Int.le_refl _
  | d :: r, h, k + 1 => by
    have h1 := h.cons
    have h2 := val_drop_le h1.2 k
    have h3 := val_nonneg h1.2
    have h4 : val (d :: r) = d + 1000000000 * val r := rfl
    rw [List.drop_succ_cons]; omega
theorem val_split (l : List Int) (k : Nat) (h : k ≤ l.length) : val l = val (l.take k) + pw k * val (l.drop k) := by
  conv => lhs; rw [← List.take_append_drop k l]
  rw [val_append, List.length_take, Nat.min_eq_left h]
theorem take_bd {l : List Int} (h : InR l) (k : Nat) (hk : k ≤ l.length) : 0 ≤ val (l.take k) ∧ val (l.take k) < pw k := by
  have h1 := val_lt (h.take k)
  rw [List.length_take, Nat.min_eq_left hk] at h1
  exact ⟨val_nonneg (h.take k), h1⟩
theorem short_of {l : List Int} {k : Nat} (h : Canon l) (hv : val l < pw k) : l.length ≤ k := by
  by_cases e : l = []
  · subst e; simp
  · have h1 := canon_lower h e
    by_cases hk : l.length ≤ k
    · exact hk
    · have := pw_mono (show k ≤ l.length - 1 by omega); omega
/-- The quotient lies between the two guesses from the top. -/
theorem guess {R D P x t q : Int} (hP : 0 < P) (hR0 : x * P ≤ R) (hR1 : R < (x + 1) * P) (hD0 : t * P ≤ D) (hD1 : D ≤ (t + 1) * P) (x0 : 0 ≤ x) (t1 : 1 ≤ t) :
    (x / (t + 1)) * D ≤ R ∧ (R < (q + 1) * D → q * D ≤ R → 0 ≤ q → q ≤ x / t) ∧ 0 ≤ x / (t + 1) := by
  have hlo0 : 0 ≤ x / (t + 1) := Int.ediv_nonneg x0 (by omega)
  refine ⟨?_, fun _ hq hq0 => ?_, hlo0⟩
  · have h1 : (x / (t + 1)) * D ≤ (x / (t + 1)) * ((t + 1) * P) := Int.mul_le_mul_of_nonneg_left hD1 hlo0
    have h2 : (x / (t + 1)) * (t + 1) ≤ x := Int.ediv_mul_le x (by omega)
    have h3 : (x / (t + 1)) * (t + 1) * P ≤ x * P := Int.mul_le_mul_of_nonneg_right h2 (by omega)
    rw [Int.mul_assoc] at h3
    omega
  · have h1 : q * (t * P) ≤ q * D := Int.mul_le_mul_of_nonneg_left hD0 hq0
    have h2 : q * t < x + 1 := by
      refine Int.lt_of_mul_lt_mul_right (a := P) ?_ (by omega)
      rw [Int.mul_assoc]; omega
    exact (Int.le_ediv_iff_mul_le (by omega)).2 (by omega)
theorem lt_guess {R D P x t : Int} (hP : 0 < P) (hR1 : R < (x + 1) * P) (hD0 : t * P ≤ D) (x0 : 0 ≤ x) (t1 : 1 ≤ t) : R < (x / t + 1) * D := by
  have h0 : 0 ≤ x / t := Int.ediv_nonneg x0 (by omega)
  have h1 : (x / t + 1) * (t * P) ≤ (x / t + 1) * D := Int.mul_le_mul_of_nonneg_left hD0 (by omega)
  have h2 : x + 1 ≤ (x / t + 1) * t := by
    have := Int.lt_ediv_add_one_mul_self x (show 0 < t by omega); omega
  have h3 : (x + 1) * P ≤ (x / t + 1) * t * P := Int.mul_le_mul_of_nonneg_right h2 (by omega)
  rw [Int.mul_assoc] at h3
  omega
/-- The search: the digit lies from lo to hi. -/
def Dig (R D lo hi : Int) : Prop := lo * D ≤ R ∧ R < (hi + 1) * D ∧ 0 ≤ lo ∧ lo ≤ hi ∧ hi ≤ 999999999
theorem Dig.up {R D lo hi q : Int} (h : Dig R D lo hi) (h1 : lo < q) (h2 : q ≤ hi) (hq : q * D ≤ R) : Dig R D q hi := ⟨hq, h.2.1, by have := h.2.2.1; omega, h2, h.2.2.2.2⟩
theorem Dig.down {R D lo hi q : Int} (h : Dig R D lo hi) (h1 : lo < q) (h2 : q ≤ hi) (hq : R < q * D) : Dig R D lo (q - 1) := ⟨h.1, by rw [Int.sub_add_cancel]; exact hq, h.2.2.1, by omega, by have := h.2.2.2.2; omega⟩
/-- Division by one limb, down to place k: the limbs of the quotient, what is left. -/
def SmallAt (xs : List Int) (d : Int) (k : Nat) (rest : Int) (os : List Int) : Prop := os.length = xs.length ∧ InR os ∧ val (os.drop k) * d + rest = val (xs.drop k) ∧ 0 ≤ rest ∧ rest < d
theorem SmallAt.step {xs os : List Int} {d rest x : Int} {i : Nat} (h : SmallAt xs d (i + 1) rest os) (hi : i < xs.length) (hx : x = xs[i]) (x0 : 0 ≤ x) (x1 : x ≤ 999999999) (d0 : 1 ≤ d) (d1 : d ≤ 999999999) :
    SmallAt xs d i ((rest * 1000000000 + x) % d) (os.set i ((rest * 1000000000 + x) / d)) ∧ 0 ≤ (rest * 1000000000 + x) % d ∧ (rest * 1000000000 + x) % d < d := by
  obtain ⟨h1, h2, h3, h4, h5⟩ := h
  have hm0 := Int.emod_nonneg (rest * 1000000000 + x) (show d ≠ 0 by omega)
  have hm1 := Int.emod_lt_of_pos (rest * 1000000000 + x) (show 0 < d by omega)
  have hq0 : 0 ≤ (rest * 1000000000 + x) / d := Int.ediv_nonneg (by omega) (by omega)
  have hq1 : (rest * 1000000000 + x) / d ≤ 999999999 := by
    have : (rest * 1000000000 + x) / d < 1000000000 := Int.ediv_lt_of_lt_mul (by omega) (by
      have : rest + 1 ≤ d := by omega
      omega)
    omega
  have hio : i < os.length := by rw [h1]; exact hi
  refine ⟨⟨by simpa using h1, h2.set i hq0 hq1, ?_, hm0, hm1⟩, hm0, hm1⟩
  rw [val_drop_at (by simpa using hio), List.getElem_set_self, List.drop_set_of_lt (by omega), val_drop_at hi, ← hx]
  have e := Int.mul_ediv_add_emod (rest * 1000000000 + x) d
  have e2 : ((rest * 1000000000 + x) / d + 1000000000 * val (os.drop (i + 1))) * d = d * ((rest * 1000000000 + x) / d) + 1000000000 * (val (os.drop (i + 1)) * d) := by
    rw [Int.add_mul, Int.mul_assoc, Int.mul_comm ((rest * 1000000000 + x) / d) d]
  rw [e2]; omega
theorem SmallAt.start (xs : List Int) {d : Int} (d0 : 1 ≤ d) : SmallAt xs d xs.length 0 (List.replicate xs.length 0) :=
  ⟨by simp, fun e he => by rw [(List.mem_replicate.1 he).2]; decide, by rw [List.drop_eq_nil_of_le (by simp), List.drop_eq_nil_of_le (by simp)]; simp [val], by omega, by omega⟩
theorem map_set_int (os : List Int) (k : Nat) (d : Int) : (os.map (Value.int .i64)).set k (.int .i64 d) = (os.set k d).map (.int .i64) := by rw [List.map_set]
theorem zeros_val (n : Nat) : val (List.replicate n 0) = 0 := val_zero (fun _ hd => (List.mem_replicate.1 hd).2)
theorem zeros_inR (n : Nat) : InR (List.replicate n 0) := fun d hd => by rw [(List.mem_replicate.1 hd).2]; decide
theorem zeros_from (n m : Nat) : ZeroFrom (List.replicate n 0) m := fun j hj _ => by simp
theorem zeroFrom_of_lt {l : List Int} {m : Nat} (h : InR l) (hv : val l < pw m) : ZeroFrom l m := by
  intro j hj hle
  have h0 := h _ (List.getElem_mem hj)
  have h1 := val_split l j (by omega)
  have h2 := val_nonneg (h.take j)
  have h3 := val_drop_at hj
  have h4 := val_nonneg (h.drop (j + 1))
  have h5 := pw_mono hle
  by_cases e : l[j] = 0
  · exact e
  · have h6 : pw j * 1 ≤ pw j * val (l.drop j) := Int.mul_le_mul_of_nonneg_left (by omega) (by have := pw_pos j; omega)
    omega

/-- A list times one limb, after i places: the limbs, the carry. -/
def TimesAt (xs : List Int) (s : Int) (i : Nat) (cy : Int) (os : List Int) : Prop := os.length = xs.length + 1 ∧ InR os ∧ val os + pw i * cy = val (xs.take i) * s ∧ ZeroFrom os i ∧ 0 ≤ cy ∧ cy ≤ 999999999
theorem TimesAt.start (xs : List Int) (s : Int) : TimesAt xs s 0 0 (List.replicate (xs.length + 1) 0) :=
  ⟨by simp, zeros_inR _, by rw [zeros_val]; simp [val], zeros_from _ _, by omega, by omega⟩
theorem TimesAt.step {xs os : List Int} {s cy x : Int} {i : Nat} (h : TimesAt xs s i cy os) (hi : i < xs.length) (hx : x = xs[i]) (hS : 0 ≤ cy + x * s) (hS1 : cy + x * s ≤ 999999999999999999) :
    TimesAt xs s (i + 1) ((cy + x * s) / 1000000000) (os.set i ((cy + x * s) % 1000000000)) := by
  obtain ⟨h1, h2, h3, h4, h5, h6⟩ := h
  have hio : i < os.length := by omega
  refine ⟨by simpa using h1, h2.set _ (by omega) (by omega), ?_, h4.set_last _, by omega, by omega⟩
  have hl : lim xs i = x := by unfold lim; rw [List.getD_eq_getElem?_getD, List.getElem?_eq_getElem hi, hx]; rfl
  rw [val_set _ _ _ hio, h4 _ hio (Nat.le_refl _), val_take_succ, hl, pw]
  have e := Int.mul_ediv_add_emod (cy + x * s) 1000000000
  grind
theorem TimesAt.last {xs os : List Int} {s cy : Int} (h : TimesAt xs s xs.length cy os) : InR (os.set xs.length cy) ∧ val (os.set xs.length cy) = val xs * s ∧ (os.set xs.length cy).length = xs.length + 1 := by
  obtain ⟨h1, h2, h3, h4, h5, h6⟩ := h
  rw [List.take_of_length_le (Nat.le_refl _)] at h3
  refine ⟨h2.set _ h5 h6, ?_, by simpa using h1⟩
  rw [val_set _ _ _ (by omega), h4 _ (by omega) (Nat.le_refl _), Int.sub_zero]
  omega

/-- A sum in place after i places: W the worth before, os the limbs now. -/
def PlusAt (W : Int) (ds : List Int) (n i : Nat) (cy : Int) (os : List Int) : Prop := InR (os.take n) ∧ val os + pw i * cy = W + val (ds.take i) ∧ 0 ≤ cy ∧ cy ≤ 1
theorem InR.take_set {l : List Int} {n : Nat} (h : InR (l.take n)) (k : Nat) {d : Int} (h0 : 0 ≤ d) (h1 : d ≤ 999999999) : InR ((l.set k d).take n) := by
  rw [List.take_set]; exact h.set k h0 h1
theorem inR_take_at {l : List Int} {n i : Nat} (h : InR (l.take n)) (hi : i < n) (hl : i < l.length) : 0 ≤ l[i] ∧ l[i] ≤ 999999999 := by
  refine h _ (List.mem_iff_getElem.2 ⟨i, by simp; omega, by simp⟩)
theorem PlusAt.step {W : Int} {ds os : List Int} {n i : Nat} {cy o d : Int} (h : PlusAt W ds n i cy os) (hi : i < n) (hio : i < os.length) (ho : o = os[i]) (hid : i < ds.length) (hd : d = ds[i]) (hdr : InR ds) :
    PlusAt W ds n (i + 1) ((cy + (o + d)) / 1000000000) (os.set i ((cy + (o + d)) % 1000000000)) ∧ 0 ≤ o ∧ o ≤ 999999999 ∧ 0 ≤ d ∧ d ≤ 999999999 := by
  obtain ⟨h1, h2, h3, h4⟩ := h
  have bo := inR_take_at h1 hi hio
  have bd := hdr _ (List.getElem_mem hid)
  rw [← ho] at bo
  rw [← hd] at bd
  refine ⟨⟨h1.take_set _ (by omega) (by omega), ?_, by omega, by omega⟩, bo.1, bo.2, bd.1, bd.2⟩
  have hl : lim ds i = d := by unfold lim; rw [List.getD_eq_getElem?_getD, List.getElem?_eq_getElem hid, hd]; rfl
  rw [val_set _ _ _ hio, val_take_succ, hl, pw, ← ho]
  have e := Int.mul_ediv_add_emod (cy + (o + d)) 1000000000
  grind

/-- A window less a multiple of the divisor after i places: W the worth before, os the limbs now. -/
def LessAt (W g : Int) (ds : List Int) (i : Nat) (cy : Int) (os : List Int) : Prop := InR os ∧ val os + pw i * cy = W - g * val (ds.take i) ∧ -1000000000 ≤ cy ∧ cy ≤ 0
theorem LessAt.step {W g : Int} {ds os : List Int} {i : Nat} {cy o d : Int} (h : LessAt W g ds i cy os) (hio : i < os.length) (ho : o = os[i]) (hid : i < ds.length) (hd : d = ds[i]) (hp0 : 0 ≤ g * d) (hp1 : g * d ≤ 999999998000000001) (o0 : 0 ≤ o) (o1 : o ≤ 999999999) :
    LessAt W g ds (i + 1) ((cy + (o - g * d)) / 1000000000) (os.set i ((cy + (o - g * d)) % 1000000000)) := by
  obtain ⟨h1, h2, h3, h4⟩ := h
  refine ⟨h1.set _ (by omega) (by omega), ?_, by omega, by omega⟩
  have hl : lim ds i = d := by unfold lim; rw [List.getD_eq_getElem?_getD, List.getElem?_eq_getElem hid, hd]; rfl
  rw [val_set _ _ _ hio, val_take_succ, hl, pw, ← ho]
  have e := Int.mul_ediv_add_emod (cy + (o - g * d)) 1000000000
  grind

/-- A window whose top limb t may be below nothing: W what it is worth in all. -/
def TopAt (n : Nat) (W t : Int) (os : List Int) : Prop := InR (os.take n) ∧ ZeroFrom os (n + 1) ∧ val os = W ∧ val os = val (os.take n) + pw n * t ∧ n < os.length ∧ os.getD n 0 = t
theorem top_at {n : Nat} {os : List Int} (h1 : InR (os.take n)) (h2 : ZeroFrom os (n + 1)) (h3 : n < os.length) : TopAt n (val os) (os.getD n 0) os := by
  refine ⟨h1, h2, rfl, ?_, h3, rfl⟩
  rw [val_split os n (by omega), val_drop_at h3]
  have h4 : val (os.drop (n + 1)) = 0 := val_zero (fun d hd => by
    obtain ⟨j, hj, rfl⟩ := List.mem_iff_getElem.1 hd
    rw [List.getElem_drop]; exact h2 _ _ (by omega))
  rw [h4, List.getD_eq_getElem?_getD, List.getElem?_eq_getElem h3]; simp
theorem TopAt.neg {n : Nat} {W t : Int} {os : List Int} (h : TopAt n W t os) (ht : t < 0) : W < 0 := by
  obtain ⟨h1, h2, h3, h4, h5, _⟩ := h
  have h6 := take_bd (l := os.take n) h1 n (by simp; omega)
  rw [List.take_take, Nat.min_self] at h6
  have h7 : pw n * t ≤ pw n * (-1) := Int.mul_le_mul_of_nonneg_left (by omega) (by have := pw_pos n; omega)
  omega
theorem TopAt.nonneg {n : Nat} {W t : Int} {os : List Int} (h : TopAt n W t os) (ht : 0 ≤ t) : 0 ≤ W := by
  obtain ⟨h1, h2, h3, h4, h5, _⟩ := h
  have h6 := val_nonneg h1
  have h7 := Int.mul_nonneg (show 0 ≤ pw n by have := pw_pos n; omega) ht
  omega
theorem TopAt.zero {n : Nat} {W t : Int} {os : List Int} (h : TopAt n W t os) (ht : 0 ≤ t) (hW : W < pw n) : t = 0 ∧ InR os := by
  obtain ⟨h1, h2, h3, h4, h5, h8⟩ := h
  have h6 := val_nonneg h1
  have ht0 : t = 0 := by
    by_cases e : t = 0
    · exact e
    · have h7 : pw n * 1 ≤ pw n * t := Int.mul_le_mul_of_nonneg_left (by omega) (by have := pw_pos n; omega)
      omega
  refine ⟨ht0, fun d hd => ?_⟩
  obtain ⟨j, hj, rfl⟩ := List.mem_iff_getElem.1 hd
  by_cases e : j < n
  · exact inR_take_at h1 e hj
  · by_cases e2 : j = n
    · subst e2
      rw [List.getD_eq_getElem?_getD, List.getElem?_eq_getElem hj] at h8
      have : os[j] = t := h8
      omega
    · have := h2 j hj (by omega); omega

/-- Long division down to place k: q the limbs of the quotient, r what is left, t the whole, D the divisor. -/
def LongAt (t D : Int) (nr m k : Nat) (q r : List Int) : Prop := q.length = m ∧ InR q ∧ r.length = nr ∧ InR r ∧ val (r.drop k) < D ∧ val (q.drop k) * D * pw k + val r = t
theorem LongAt.window {t D : Int} {nr m j : Nat} {q r : List Int} (h : LongAt t D nr m (j + 1) q r) (hj : j < nr) : val (r.drop j) < 1000000000 * D ∧ 0 ≤ val (r.drop j) := by
  obtain ⟨_, _, h3, h4, h5, _⟩ := h
  have h6 := h4 _ (List.getElem_mem (show j < r.length by omega))
  rw [val_drop_at (by omega)]
  have h7 := val_nonneg (h4.drop (j + 1))
  omega
theorem LongAt.step {t D : Int} {nr m j : Nat} {q r X : List Int} {d : Int} (h : LongAt t D nr m (j + 1) q r) (hj : j < nr) (hm : j < m) (hX : X.length = (r.drop j).length) (hXr : InR X) (hv : val X = val (r.drop j) - d * D) (hlt : val X < D) (d0 : 0 ≤ d) (d1 : d ≤ 999999999) :
    LongAt t D nr m j (q.set j d) (r.take j ++ X) := by
  obtain ⟨h1, h2, h3, h4, h5, h6⟩ := h
  have hl : (r.take j).length = j := by simp; omega
  have hd : (r.take j ++ X).drop j = X := by
    rw [List.drop_append_of_le_length (by omega), List.drop_eq_nil_of_le (by omega), List.nil_append]
  refine ⟨by simpa using h1, h2.set j d0 d1, by rw [List.length_append, hl, hX]; simp; omega, (h4.take j).append hXr, by rw [hd]; exact hlt, ?_⟩
  rw [val_drop_at (by simp; omega), List.getElem_set_self, List.drop_set_of_lt (by omega), val_append, hl, hv]
  have e := val_split r j (by omega)
  rw [pw] at h6
  grind
/-- What a division gives. -/
def DivIs (a b : Int) (q r : List Int) : Prop := Canon q ∧ Canon r ∧ a = val q * b + val r ∧ val r < b
theorem div_unique {a b q r q' r' : Int} (h : a = q * b + r) (h0 : 0 ≤ r) (h1 : r < b) (h' : a = q' * b + r') (h0' : 0 ≤ r') (h1' : r' < b) : q = q' ∧ r = r' := by
  have e1 : a / b = q := by
    rw [h, Int.add_comm, Int.add_mul_ediv_right _ _ (by omega), Int.ediv_eq_zero_of_lt h0 h1]; omega
  have e2 : a / b = q' := by
    rw [h', Int.add_comm, Int.add_mul_ediv_right _ _ (by omega), Int.ediv_eq_zero_of_lt h0' h1']; omega
  have e3 : q = q' := by omega
  subst e3
  exact ⟨rfl, by omega⟩
theorem divIs_unique {a b : Int} {q r q' r' : List Int} (h : DivIs a b q r) (h' : DivIs a b q' r') : q = q' ∧ r = r' := by
  obtain ⟨h1, h2, h3, h4⟩ := h
  obtain ⟨k1, k2, k3, k4⟩ := h'
  obtain ⟨e1, e2⟩ := div_unique h3 (val_nonneg h2.1) h4 k3 (val_nonneg k2.1) k4
  exact ⟨canon_unique h1 k1 e1, canon_unique h2 k2 e2⟩
theorem LongAt.done {A s B : Int} {nr m nb : Nat} {q r : List Int} (h : LongAt (A * s) (B * s) nr m 0 q r) (hD : B * s ≤ pw nb) : ZeroFrom r nb ∧ val r = s * (A - val q * B) ∧ val r < B * s := by
  obtain ⟨h1, h2, h3, h4, h5, h6⟩ := h
  rw [List.drop_zero] at h5 h6
  refine ⟨zeroFrom_of_lt h4 (by omega), ?_, h5⟩
  have e : pw 0 = 1 := rfl
  rw [e] at h6
  grind
/-- The quotient of what is left by the scale. -/
theorem scaled_back {R s X B v rest : Int} (hR : R = s * X) (hs : 1 ≤ s) (h : v * s + rest = R) (r0 : 0 ≤ rest) (r1 : rest < s) (hlt : R < B * s) : v = X ∧ v < B := by
  obtain ⟨e, _⟩ := div_unique (a := R) (b := s) (q := v) (r := rest) (q' := X) (r' := 0) (by omega) r0 r1 (by rw [hR, Int.mul_comm]; omega) (by omega) (by omega)
  subst e
  refine ⟨rfl, ?_⟩
  refine Int.lt_of_mul_lt_mul_right (a := s) ?_ (by omega)
  omega

/-- What NatDiv returns. -/
def NatDivIs (a b q r : List Int) : Prop := (Ok a ∧ Ok b ∧ 0 < val b ∧ DivIs (val a) (val b) q r) ∨ (¬ (Ok a ∧ Ok b ∧ 0 < val b) ∧ q = [] ∧ r = [])
theorem natDiv_unique {a b q r q' r' : List Int} (h : NatDivIs a b q r) (h' : NatDivIs a b q' r') : q = q' ∧ r = r' := by
  rcases h with ⟨h1, h2, h3, h4⟩ | ⟨h1, rfl, rfl⟩ <;> rcases h' with ⟨k1, k2, k3, k4⟩ | ⟨k1, rfl, rfl⟩
  · exact divIs_unique h4 k4
  · exact absurd ⟨h1, h2, h3⟩ k1
  · exact absurd ⟨k1, k2, k3⟩ h1
  · exact ⟨rfl, rfl⟩
theorem canon_pos {l : List Int} (h : Canon l) (hl : 0 < l.length) : 0 < val l := by
  have h1 := canon_lower h (by intro e; subst e; simp at hl)
  have := pw_pos (l.length - 1); omega

/-- The greatest common divisor's list. -/
def GcdIs (a b : Int) (r : List Int) : Prop := Canon r ∧ val r = (Int.gcd a b : Int)
def NatGcdIs (a b r : List Int) : Prop := (Ok a ∧ Ok b ∧ GcdIs (val a) (val b) r) ∨ (¬ (Ok a ∧ Ok b) ∧ r = [])
theorem natGcd_unique {a b r r' : List Int} (h : NatGcdIs a b r) (h' : NatGcdIs a b r') : r = r' := by
  rcases h with ⟨h1, h2, h3⟩ | ⟨h1, rfl⟩ <;> rcases h' with ⟨k1, k2, k3⟩ | ⟨k1, rfl⟩
  · exact canon_unique h3.1 k3.1 (h3.2.trans k3.2.symm)
  · exact absurd ⟨h1, h2⟩ k1
  · exact absurd ⟨k1, k2⟩ h1
  · rfl
theorem gcd_step {a b q r : Int} (h : a = q * b + r) : Int.gcd a b = Int.gcd b r := by
  rw [h, Int.gcd_comm, Int.add_comm, Int.gcd_add_mul_right_right]
theorem gcd_mod (a b : Int) : Int.gcd a b = Int.gcd b (a % b) := gcd_step (q := a / b) (by rw [Int.mul_comm]; exact (Int.mul_ediv_add_emod a b).symm)
end Go.Proofs.Ytipmeijfmiiedaa
namespace Go.Proofs.Ytipmeijfmiiedaa
set_option maxRecDepth 100000

/-- The worth of a sign and limbs. -/
def bval (g : Bool) (l : List Int) : Int := if g = true then - val l else val l
def BOk (g : Bool) (l : List Int) : Prop := Ok l ∧ (g = true → l ≠ [])
/-- The sign of a number with these limbs: none where there are no limbs. -/
def sgn (n : Bool) (r : List Int) : Bool := n && decide (r ≠ [])
/-- t as a big integer; 0 where it is too long. -/
def BRep (t : Int) (g : Bool) (r : List Int) : Prop := ∃ l, Canon l ∧ val l = (t.natAbs : Int) ∧ r = cap l ∧ g = sgn (decide (t < 0)) r
theorem bRep_unique {t : Int} {g g' : Bool} {r r' : List Int} (h : BRep t g r) (h' : BRep t g' r') : g = g' ∧ r = r' := by
  obtain ⟨l, hc, hv, rfl, rfl⟩ := h
  obtain ⟨l', hc', hv', rfl, rfl⟩ := h'
  obtain rfl := canon_unique hc hc' (hv.trans hv'.symm)
  exact ⟨rfl, rfl⟩
/-- What an operation gives: t where P holds, else 0. -/
def BigIs (P : Prop) (t : Int) (g : Bool) (r : List Int) : Prop := (P ∧ BRep t g r) ∨ (¬ P ∧ g = false ∧ r = [])
theorem bigIs_unique {P : Prop} {t : Int} {g g' : Bool} {r r' : List Int} (h : BigIs P t g r) (h' : BigIs P t g' r') : g = g' ∧ r = r' := by
  rcases h with ⟨hp, h⟩ | ⟨hp, rfl, rfl⟩ <;> rcases h' with ⟨hp', h'⟩ | ⟨hp', rfl, rfl⟩
  · exact bRep_unique h h'
  · exact absurd hp hp'
  · exact absurd hp' hp
  · exact ⟨rfl, rfl⟩

def BigIntOkIs (g : Bool) (l : List Int) (b : Bool) : Prop := b = true ↔ BOk g l
theorem bigIntOk_unique {g : Bool} {l : List Int} {b b' : Bool} (h : BigIntOkIs g l b) (h' : BigIntOkIs g l b') : b = b' := by
  unfold BigIntOkIs at h h'
  rw [Bool.eq_iff_iff, h, h']
def BigIntOfIs (n : Int) (g : Bool) (r : List Int) : Prop := BRep n g r
theorem bigIntOf_unique {n : Int} {g g' : Bool} {r r' : List Int} (h : BigIntOfIs n g r) (h' : BigIntOfIs n g' r') : g = g' ∧ r = r' := bRep_unique h h'
def BigIntToIntIs (g : Bool) (l : List Int) (v : Int) (b : Bool) : Prop :=
  (b = true ∧ (BOk g l ∧ val l ≤ 9223372036854775807) ∧ v = bval g l) ∨ (b = false ∧ v = 0 ∧ ¬ (BOk g l ∧ val l ≤ 9223372036854775807))
theorem bigIntToInt_unique {g : Bool} {l : List Int} {v v' : Int} {b b' : Bool} (h : BigIntToIntIs g l v b) (h' : BigIntToIntIs g l v' b') : v = v' ∧ b = b' := by
  rcases h with ⟨rfl, hp, rfl⟩ | ⟨rfl, rfl, hp⟩ <;> rcases h' with ⟨rfl, hp', rfl⟩ | ⟨rfl, rfl, hp'⟩
  · exact ⟨rfl, rfl⟩
  · exact absurd hp hp'
  · exact absurd hp' hp
  · exact ⟨rfl, rfl⟩
def BigIntNegIs (g : Bool) (l : List Int) (h : Bool) (r : List Int) : Prop := BigIs (BOk g l) (- bval g l) h r
theorem bigIntNeg_unique {g : Bool} {l : List Int} {h h' : Bool} {r r' : List Int} (k : BigIntNegIs g l h r) (k' : BigIntNegIs g l h' r') : h = h' ∧ r = r' := bigIs_unique k k'
section
variable {g1 g2 : Bool} {l1 l2 : List Int} {h h' : Bool} {r r' : List Int}
def BigIntAddIs (g1 : Bool) (l1 : List Int) (g2 : Bool) (l2 : List Int) (h : Bool) (r : List Int) : Prop := BigIs (BOk g1 l1 ∧ BOk g2 l2) (bval g1 l1 + bval g2 l2) h r
def BigIntSubIs (g1 : Bool) (l1 : List Int) (g2 : Bool) (l2 : List Int) (h : Bool) (r : List Int) : Prop := BigIs (BOk g1 l1 ∧ BOk g2 l2) (bval g1 l1 - bval g2 l2) h r
def BigIntMulIs (g1 : Bool) (l1 : List Int) (g2 : Bool) (l2 : List Int) (h : Bool) (r : List Int) : Prop := BigIs (BOk g1 l1 ∧ BOk g2 l2) (bval g1 l1 * bval g2 l2) h r
theorem bigIntAdd_unique (k : BigIntAddIs g1 l1 g2 l2 h r) (k' : BigIntAddIs g1 l1 g2 l2 h' r') : h = h' ∧ r = r' := bigIs_unique k k'
theorem bigIntSub_unique (k : BigIntSubIs g1 l1 g2 l2 h r) (k' : BigIntSubIs g1 l1 g2 l2 h' r') : h = h' ∧ r = r' := bigIs_unique k k'
theorem bigIntMul_unique (k : BigIntMulIs g1 l1 g2 l2 h r) (k' : BigIntMulIs g1 l1 g2 l2 h' r') : h = h' ∧ r = r' := bigIs_unique k k'
end
def BigIntCmpIs (g1 : Bool) (l1 : List Int) (g2 : Bool) (l2 : List Int) (r : Int) : Prop :=
  ((BOk g1 l1 ∧ BOk g2 l2) ∧ r = cmpV (bval g1 l1) (bval g2 l2)) ∨ (¬ (BOk g1 l1 ∧ BOk g2 l2) ∧ r = 0)
theorem bigIntCmp_unique {g1 g2 : Bool} {l1 l2 : List Int} {r r' : Int} (k : BigIntCmpIs g1 l1 g2 l2 r) (k' : BigIntCmpIs g1 l1 g2 l2 r') : r = r' := by
  rcases k with ⟨hp, rfl⟩ | ⟨hp, rfl⟩ <;> rcases k' with ⟨hp', rfl⟩ | ⟨hp', rfl⟩
  · rfl
  · exact absurd hp hp'
  · exact absurd hp' hp
  · rfl
/-- Rounded down, and what is left. -/
def BigIntFloorDivIs (g : Bool) (l m : List Int) (h : Bool) (q r : List Int) : Prop :=
  ((BOk g l ∧ Ok m ∧ 0 < val m) ∧ BRep (bval g l / val m) h q ∧ Canon r ∧ val r = bval g l % val m) ∨ (¬ (BOk g l ∧ Ok m ∧ 0 < val m) ∧ h = false ∧ q = [] ∧ r = [])
theorem bigIntFloorDiv_unique {g : Bool} {l m : List Int} {h h' : Bool} {q r q' r' : List Int} (k : BigIntFloorDivIs g l m h q r) (k' : BigIntFloorDivIs g l m h' q' r') : h = h' ∧ q = q' ∧ r = r' := by
  rcases k with ⟨hp, k1, k2, k3⟩ | ⟨hp, rfl, rfl, rfl⟩ <;> rcases k' with ⟨hp', k1', k2', k3'⟩ | ⟨hp', rfl, rfl, rfl⟩
  · obtain ⟨rfl, rfl⟩ := bRep_unique k1 k1'
    exact ⟨rfl, rfl, canon_unique k2 k2' (k3.trans k3'.symm)⟩
  · exact absurd hp hp'
  · exact absurd hp' hp
  · exact ⟨rfl, rfl, rfl⟩

theorem bigOk_mk {g b : Bool} {xs : List Int} {n : Nat} (h : NatOkIs xs b) (hn : xs.length = n) : BigIntOkIs g xs (b && (!g || decide (0 < n))) := by
  unfold BigIntOkIs BOk
  unfold NatOkIs at h
  have hne : xs ≠ [] ↔ 0 < n := by rw [← hn]; exact List.length_pos_iff.symm
  cases g <;> simp [h, hne]
/-- A sign put to limbs that are not too long. -/
theorem bRep_of {t : Int} {n : Bool} {l r : List Int} (hc : Canon l) (hv : val l = (t.natAbs : Int)) (hr : r = cap l) (hn : t ≠ 0 → n = decide (t < 0)) : BRep t (sgn n r) r := by
  refine ⟨l, hc, hv, hr, ?_⟩
  by_cases h0 : t = 0
  · subst h0
    obtain rfl := canon_zero hc hv
    subst hr
    simp [sgn, cap]
  · rw [hn h0]
theorem make_rep {t V : Int} {n : Bool} {r : List Int} (h : ∃ l, Canon l ∧ val l = V ∧ r = cap l) (hV : V = (t.natAbs : Int)) (hn : t ≠ 0 → n = decide (t < 0)) : BRep t (sgn n r) r := by
  obtain ⟨l, hc, hv, hr⟩ := h
  exact bRep_of hc (hv.trans hV) hr hn
theorem of_neg {n : Int} {rs r : List Int} (hn : n < 0) (h : NatOfIs (-n) rs) (k : ∃ l, Canon l ∧ val l = val rs ∧ r = cap l) : BigIntOfIs n (sgn true r) r := by
  refine make_rep k ?_ (fun _ => by simp [hn])
  have := h.2
  rw [if_neg (by omega)] at this
  omega
theorem of_pos {n : Int} {rs r : List Int} (hn : 0 ≤ n) (h : NatOfIs n rs) (k : ∃ l, Canon l ∧ val l = val rs ∧ r = cap l) : BigIntOfIs n (sgn false r) r := by
  refine make_rep k ?_ (fun _ => by simp; omega)
  have := h.2
  split at this <;> omega
theorem sgn_false (r : List Int) : sgn false r = false := rfl
theorem bval_neg {g : Bool} {l : List Int} (h : BOk g l) : (val l = ((- bval g l).natAbs : Int)) ∧ (- bval g l ≠ 0 → (!g) = decide (- bval g l < 0)) := by
  have h0 := val_nonneg h.1.1.1
  cases g
  · simp only [bval]; refine ⟨by simp; omega, fun hne => ?_⟩
    simp at hne ⊢; omega
  · simp only [bval]; refine ⟨by simp; omega, fun hne => ?_⟩
    simp at hne ⊢; omega
theorem BOk.pos {l : List Int} (h : BOk true l) : 0 < val l := canon_pos h.1.1 (List.length_pos_iff.2 (h.2 rfl))
theorem BOk.nonneg {g : Bool} {l : List Int} (h : BOk g l) : 0 ≤ val l := val_nonneg h.1.1.1
theorem add_same {g : Bool} {xs ys r : List Int} {V : Int} (k1 : BOk g xs) (k2 : BOk g ys) (hV : V = val xs + val ys) (h : ∃ l, Canon l ∧ val l = V ∧ r = cap l) : BRep (bval g xs + bval g ys) (sgn g r) r := by
  subst hV
  have h1 := k1.nonneg
  have h2 := k2.nonneg
  cases g
  · exact make_rep h (by simp only [bval]; simp; omega) (fun _ => by simp only [bval]; simp; omega)
  · have h3 := k1.pos
    exact make_rep h (by simp only [bval]; simp; omega) (fun _ => by simp only [bval]; simp; omega)
theorem add_less {g g' : Bool} {xs ys r : List Int} {V : Int} (hg : g' = !g) (hle : val ys ≤ val xs) (hV : V = val xs - val ys) (h : ∃ l, Canon l ∧ val l = V ∧ r = cap l) : BRep (bval g xs + bval g' ys) (sgn g r) r := by
  subst hV hg
  cases g
  · exact make_rep h (by simp only [bval]; simp; omega) (fun hne => by simp only [bval] at hne ⊢; simp at hne ⊢; omega)
  · exact make_rep h (by simp only [bval]; simp; omega) (fun hne => by simp only [bval] at hne ⊢; simp at hne ⊢; omega)
theorem add_more {g g' : Bool} {xs ys r : List Int} {V : Int} (hg : g' = !g) (hle : val xs ≤ val ys) (hV : V = val ys - val xs) (h : ∃ l, Canon l ∧ val l = V ∧ r = cap l) : BRep (bval g xs + bval g' ys) (sgn g' r) r := by
  rw [Int.add_comm]; exact add_less (by rw [hg]; simp) hle hV h
theorem bool_ne {g g' : Bool} (h : ¬ g = g') : g' = !g := by cases g <;> cases g' <;> simp_all
theorem bRep_ok {t : Int} {g : Bool} {r l : List Int} (h : BRep t g r) (hl : Ok l) (hv : val l = (t.natAbs : Int)) : BOk g r ∧ bval g r = t := by
  obtain ⟨l', hc, hv', rfl, rfl⟩ := h
  obtain rfl := canon_unique hc hl.1 (hv'.trans hv.symm)
  have hcap := (hc.ok hl.2).2
  rw [hcap]
  by_cases h0 : l' = []
  · subst h0
    have ht : t = 0 := by simp [val] at hv; omega
    subst ht
    exact ⟨⟨hl, by simp [sgn]⟩, by simp [bval, sgn, val]⟩
  · refine ⟨⟨hl, fun _ => h0⟩, ?_⟩
    by_cases hn : t < 0
    · simp [bval, sgn, h0, hn]; omega
    · simp [bval, sgn, hn]; omega
theorem neg_ok {g h : Bool} {l r : List Int} (k : BOk g l) (q : BigIntNegIs g l h r) : BOk h r ∧ bval h r = - bval g l := by
  rcases q with ⟨_, q⟩ | ⟨q, _⟩
  · exact bRep_ok q k.1 (bval_neg k).1
  · exact absurd k q
theorem sub_mk {g1 g2 g0 h : Bool} {l1 l2 l0 r : List Int} (k1 : BOk g1 l1) (k2 : BOk g2 l2) (k0 : bval g0 l0 = - bval g2 l2) (q : BRep (bval g1 l1 + bval g0 l0) h r) : BigIntSubIs g1 l1 g2 l2 h r :=
  .inl ⟨⟨k1, k2⟩, by rw [k0] at q; rwa [Int.sub_eq_add_neg]⟩
theorem mul_mk {g1 g2 b : Bool} {xs ys r : List Int} {V : Int} (k1 : BOk g1 xs) (k2 : BOk g2 ys) (hb : (g1 != g2) = b) (hV : V = val xs * val ys) (h : ∃ l, Canon l ∧ val l = V ∧ r = cap l) : BigIntMulIs g1 xs g2 ys (sgn b r) r := by
  have h0 := Int.mul_nonneg k1.nonneg k2.nonneg
  have e : bval g1 xs * bval g2 ys = if b = true then -(val xs * val ys) else val xs * val ys := by
    subst hb
    cases g1 <;> cases g2 <;> simp [bval, Int.neg_mul, Int.mul_neg]
  refine .inl ⟨⟨k1, k2⟩, ?_⟩
  rw [e]
  subst hV
  generalize val xs * val ys = p at *
  cases b
  · exact make_rep h (by simp; omega) (fun _ => by simp; omega)
  · exact make_rep h (by simp; omega) (fun hne => by simp at hne ⊢; omega)
theorem cmp_neg (a b : Int) : cmpV (-a) (-b) = cmpV b a := by
  unfold cmpV
  by_cases h : b < a
  · rw [if_pos (by omega), if_pos h]
  · by_cases e : a = b
    · subst e; simp
    · rw [if_neg (by omega), if_neg (by omega), if_neg h, if_neg (by omega)]
theorem cmpV_bd (a b : Int) : -1 ≤ cmpV a b ∧ cmpV a b ≤ 1 := by
  unfold cmpV
  by_cases h : a < b
  · rw [if_pos h]; omega
  · by_cases e : a = b
    · rw [if_neg h, if_pos e]; omega
    · rw [if_neg h, if_neg e]; omega
/-- The floor of a division with a sign. -/
theorem floor_pos {a b q r : Int} (h : a = q * b + r) (h0 : 0 ≤ r) (h1 : r < b) : a / b = q ∧ a % b = r := by
  have hb : 0 < b := by omega
  have e : a = r + b * q := by rw [h, Int.mul_comm q b]; omega
  subst e
  exact ⟨by rw [Int.add_mul_ediv_left _ _ (by omega), Int.ediv_eq_zero_of_lt h0 h1]; omega, by rw [Int.add_mul_emod_self_left, Int.emod_eq_of_lt h0 h1]⟩
theorem floor_neg {a b q r : Int} (h : a = q * b + r) (h0 : 0 < r) (h1 : r < b) : (-a) / b = -(q + 1) ∧ (-a) % b = b - r := by
  refine floor_pos (q := -(q + 1)) (r := b - r) ?_ (by omega) (by omega)
  rw [h, Int.neg_mul, Int.add_mul]; omega
theorem floor_neg0 {a b q : Int} (h : a = q * b + 0) (hb : 0 < b) : (-a) / b = -q ∧ (-a) % b = 0 := by
  refine floor_pos (q := -q) (r := 0) ?_ (by omega) hb
  rw [h, Int.neg_mul]; omega
/-- The sign of a number: -1, 0 or 1. -/
def sg (g : Bool) (n : Nat) : Int := if g = true then -1 else if n = 0 then 0 else 1
theorem sg_bd (g : Bool) (n : Nat) : -1 ≤ sg g n ∧ sg g n ≤ 1 := by unfold sg; split; omega; split <;> omega
/-- s is the sign of what these limbs stand for. -/
def SOk (s : Int) (l : List Int) : Prop := Ok l ∧ ((s = -1 ∧ 0 < val l) ∨ (s = 0 ∧ l = []) ∨ (s = 1 ∧ 0 < val l))
theorem sok_sg {g : Bool} {l : List Int} {n : Nat} (h : BOk g l) (hn : l.length = n) : SOk (sg g n) l ∧ bval g l = sg g n * val l := by
  unfold sg
  cases g
  · by_cases h0 : n = 0
    · obtain rfl := List.eq_nil_of_length_eq_zero (hn.trans h0)
      simp [SOk, h.1, h0, bval, val]
    · have hp := canon_pos h.1.1 (by omega : 0 < l.length)
      simp [SOk, h.1, h0, bval, hp]
  · have hp := h.pos
    simp [SOk, h.1, bval, hp]
theorem sok_neg {s : Int} {l : List Int} (h : SOk s l) : SOk (-s) l := by
  refine ⟨h.1, ?_⟩
  rcases h.2 with ⟨rfl, k⟩ | ⟨rfl, k⟩ | ⟨rfl, k⟩
  · exact .inr (.inr ⟨by omega, k⟩)
  · exact .inr (.inl ⟨by omega, k⟩)
  · exact .inl ⟨by omega, k⟩
theorem sign_rep {t s : Int} {r : List Int} (h : ∃ l, Canon l ∧ val l = (t.natAbs : Int) ∧ r = cap l) (hs : t ≠ 0 → (s = -1 ↔ t < 0)) : BRep t (sgn (decide (s = -1)) r) r :=
  make_rep h rfl (fun hn => decide_eq_decide.2 (hs hn))
theorem ok_cap {l : List Int} (h : Ok l) : ∃ m, Canon m ∧ val m = val l ∧ l = cap m := ⟨l, h.1, rfl, (h.1.ok h.2).2.symm⟩
theorem bin_cap {P : Prop} {t : Int} {r : List Int} (h : BinIs P t r) (hp : P) : ∃ m, Canon m ∧ val m = t ∧ r = cap m := by
  rcases h with ⟨_, h⟩ | ⟨h, _⟩
  · exact h
  · exact absurd hp h
theorem neg_sign {g : Bool} {l : List Int} {n : Nat} (h : BOk g l) (hn : l.length = n) : BigIntNegIs g l (sgn (decide (-(sg g n) = -1)) l) l := by
  obtain ⟨k, e⟩ := sok_sg h hn
  refine .inl ⟨h, ?_⟩
  obtain ⟨m, hm⟩ := ok_cap h.1
  refine sign_rep ⟨m, hm.1, hm.2.1.trans (bval_neg h).1, hm.2.2⟩ ?_
  rw [e]
  rcases k.2 with ⟨e, h⟩ | ⟨e, h⟩ | ⟨e, h⟩ <;> rw [e] <;> simp <;> omega
theorem add_s {s : Int} {a b r : List Int} (k1 : SOk s a) (k2 : SOk s b) (h : ∃ l, Canon l ∧ val l = val a + val b ∧ r = cap l) : BRep (s * val a + s * val b) (sgn (decide (s = -1)) r) r := by
  obtain ⟨l, hc, hv, hr⟩ := h
  have ha := val_nonneg k1.1.1.1
  have hb := val_nonneg k2.1.1.1
  refine sign_rep ⟨l, hc, ?_, hr⟩ ?_
  · rw [hv]; rcases k1.2 with ⟨rfl, h⟩ | ⟨rfl, h⟩ | ⟨rfl, h⟩
    · omega
    · rcases k2.2 with ⟨e, _⟩ | ⟨_, h2⟩ | ⟨e, _⟩
      · omega
      · subst h h2; simp [val]
      · omega
    · omega
  · rcases k1.2 with ⟨rfl, h⟩ | ⟨rfl, h⟩ | ⟨rfl, h⟩ <;> intro hne <;> omega
theorem sub_s {s t : Int} {a b r : List Int} (k1 : SOk s a) (k2 : SOk t b) (hst : s ≠ t) (hle : val b ≤ val a) (h : ∃ l, Canon l ∧ val l = val a - val b ∧ r = cap l) : BRep (s * val a + t * val b) (sgn (decide (s = -1)) r) r := by
  obtain ⟨l, hc, hv, hr⟩ := h
  have ha := val_nonneg k1.1.1.1
  have hb := val_nonneg k2.1.1.1
  have n1 : s = 0 → val a = 0 := fun e => by
    rcases k1.2 with ⟨h, _⟩ | ⟨_, h⟩ | ⟨h, _⟩
    · omega
    · rw [h]; rfl
    · omega
  have n2 : t = 0 → val b = 0 := fun e => by
    rcases k2.2 with ⟨h, _⟩ | ⟨_, h⟩ | ⟨h, _⟩
    · omega
    · rw [h]; rfl
    · omega
  refine sign_rep ⟨l, hc, ?_, hr⟩ ?_
  · rw [hv]
    rcases k1.2 with ⟨rfl, h1⟩ | ⟨rfl, h1⟩ | ⟨rfl, h1⟩ <;> rcases k2.2 with ⟨rfl, h2⟩ | ⟨rfl, h2⟩ | ⟨rfl, h2⟩ <;> omega
  · rcases k1.2 with ⟨rfl, h1⟩ | ⟨rfl, h1⟩ | ⟨rfl, h1⟩ <;> rcases k2.2 with ⟨rfl, h2⟩ | ⟨rfl, h2⟩ | ⟨rfl, h2⟩ <;> intro hne <;> omega
theorem mul_s {s t : Int} {a b r : List Int} (k1 : SOk s a) (k2 : SOk t b) (h : ∃ l, Canon l ∧ val l = val a * val b ∧ r = cap l) : BRep (s * val a * (t * val b)) (sgn (decide (s * t = -1)) r) r := by
  obtain ⟨l, hc, hv, hr⟩ := h
  have ha := val_nonneg k1.1.1.1
  have hb := val_nonneg k2.1.1.1
  have hp := Int.mul_nonneg ha hb
  have e : s * val a * (t * val b) = s * t * (val a * val b) := by
    rw [Int.mul_assoc, Int.mul_assoc, Int.mul_left_comm (val a)]
  rw [e]
  have z1 : a = [] → val a * val b = 0 := fun h => by rw [h]; simp [val]
  have z2 : b = [] → val a * val b = 0 := fun h => by rw [h]; simp [val]
  generalize val a * val b = p at *
  refine sign_rep ⟨l, hc, ?_, hr⟩ ?_
  · rw [hv]
    rcases k1.2 with ⟨rfl, h1⟩ | ⟨rfl, h1⟩ | ⟨rfl, h1⟩ <;> rcases k2.2 with ⟨rfl, h2⟩ | ⟨rfl, h2⟩ | ⟨rfl, h2⟩ <;> first | omega | (have := z1 h1; omega) | (have := z2 h2; omega)
  · rcases k1.2 with ⟨rfl, h1⟩ | ⟨rfl, h1⟩ | ⟨rfl, h1⟩ <;> rcases k2.2 with ⟨rfl, h2⟩ | ⟨rfl, h2⟩ | ⟨rfl, h2⟩ <;> intro hne <;> first | omega | (have := z1 h1; omega) | (have := z2 h2; omega)
theorem canon_ne {l : List Int} (h : Canon l) : 0 < val l ↔ l ≠ [] := by
  constructor
  · rintro h1 rfl; simp [val] at h1
  · intro h1
    exact canon_pos h (List.length_pos_iff.2 h1)
theorem Ok.val0 {l : List Int} (h : Ok l) : 0 ≤ val l := val_nonneg h.1.1
theorem floor_mk {g : Bool} {xs ms q r rq : List Int} (k : BOk g xs) (km : Ok ms) (hp : 0 < val ms) (hd : DivIs (val xs) (val ms) q r) (hg : g = true → val r = 0) (h : ∃ l, Canon l ∧ val l = val q ∧ rq = cap l) : BigIntFloorDivIs g xs ms (sgn g rq) rq r := by
  obtain ⟨hq, hr, he, hlt⟩ := hd
  have h0 := val_nonneg hr.1
  have hq0 := val_nonneg hq.1
  refine .inl ⟨⟨k, km, hp⟩, ?_⟩
  cases g
  · obtain ⟨e1, e2⟩ := floor_pos he h0 hlt
    refine ⟨?_, hr, by rw [show bval false xs = val xs from rfl, e2]⟩
    rw [show bval false xs = val xs from rfl, e1]
    exact make_rep h (by omega) (fun _ => by simp; omega)
  · have hz := hg rfl
    rw [hz] at he
    obtain ⟨e1, e2⟩ := floor_neg0 he hp
    refine ⟨?_, hr, by rw [show bval true xs = -val xs from rfl, e2, hz]⟩
    rw [show bval true xs = -val xs from rfl, e1]
    exact make_rep h (by omega) (fun hne => by simp; omega)
theorem floor_mk_neg {xs ms q r r' rq : List Int} {V : Int} (k : BOk true xs) (km : Ok ms) (hp : 0 < val ms) (hd : DivIs (val xs) (val ms) q r) (hr0 : 0 < val r) (hV : V = val q + 1) (h : ∃ l, Canon l ∧ val l = V ∧ rq = cap l) (hr' : Canon r') (hv' : val r' = val ms - val r) :
    BigIntFloorDivIs true xs ms (sgn true rq) rq r' := by
  obtain ⟨hq, hr, he, hlt⟩ := hd
  have hq0 := val_nonneg hq.1
  subst hV
  obtain ⟨e1, e2⟩ := floor_neg he hr0 hlt
  refine .inl ⟨⟨k, km, hp⟩, ?_, hr', by rw [show bval true xs = -val xs from rfl, e2, hv']⟩
  rw [show bval true xs = -val xs from rfl, e1]
  exact make_rep h (by omega) (fun _ => by simp; omega)
theorem floor_no {g : Bool} {xs ms : List Int} (h : ¬ (BOk g xs ∧ Ok ms ∧ 0 < val ms)) : BigIntFloorDivIs g xs ms false [] [] := .inr ⟨h, rfl, rfl, rfl⟩
end Go.Proofs.Ytipmeijfmiiedaa
namespace Go.Proofs.Ytipmeijfmiiedaa
set_option maxRecDepth 100000
open Go.RowKit

theorem own_set {w : World} {base : Nat} {E : TypeId} {size n : Nat} {v u : Value} {xs : List Value} {p : Addr} (h : w.ownsRow base E size v n xs) (hp : p.block < base) : (w.setCell p u).ownsRow base E size v n xs := by
  refine ⟨h.1, ?_⟩
  rcases h.2 with h | ⟨g, cap, cur, h1, h2, h3, h4⟩
  · exact .inl h
  · exact .inr ⟨g, cap, cur, h1, h2, (Below.heap_setCell w p u g (by omega)).trans h3, h4⟩
theorem own_base {w : World} {base base' : Nat} {E : TypeId} {size n : Nat} {v : Value} {xs : List Value} (h : w.ownsRow base E size v n xs) (hb : base' ≤ base) : w.ownsRow base' E size v n xs := by
  refine ⟨h.1, ?_⟩
  rcases h.2 with h | ⟨g, cap, cur, h1, h2, h3⟩
  · exact .inl h
  · exact .inr ⟨g, cap, cur, h1, by omega, h3⟩
theorem grownBy_alloc (w : World) (o : Obj) (row : Option Nat) : w.grownBy (w.alloc o) row := grownBy_of_below ((Below.refl _ _).alloc (Nat.le_refl _) _) row

/-- Block g holds just these cells. -/
def Box (w : World) (g : Nat) (t : TypeId) (cs : Array Value) : Prop := w.heap[g]? = some (.cells cs t (0, 0))
section
variable {w w' : World} {g : Nat} {t : TypeId} {cs : Array Value}
theorem Box.lt (h : Box w g t cs) : g < w.heap.size := by
  rcases Nat.lt_or_ge g w.heap.size with hlt | hge
  · exact hlt
  · unfold Box at h; rw [Array.getElem?_eq_none hge] at h; cases h
theorem Box.cell (h : Box w g t cs) (i : Nat) : w.cell? ⟨g, i, none⟩ = cs[i]? := by unfold Box at h; simp [World.cell?, h]
theorem Box.free (h : Box w g t cs) (i : Nat) : w.frozen? ⟨g, i, none⟩ = false := by unfold Box at h; simp [World.frozen?, h]
theorem Box.new (w : World) (t : TypeId) (cs : Array Value) : Box (w.alloc (.cells cs t)) w.heap.size t cs := heap_alloc_new w _
theorem Box.alloc (h : Box w g t cs) (o : Obj) : Box (w.alloc o) g t cs := (Below.heap_alloc w o g h.lt).trans h
theorem Box.drew (h : Box w g t cs) : Box w.drew g t cs := h
theorem Box.far (h : Box w g t cs) {p : Addr} (hp : g ≠ p.block) (u : Value) : Box (w.setCell p u) g t cs := (Below.heap_setCell w p u g hp).trans h
theorem Box.set_ (h : Box w g t cs) (i : Nat) (u : Value) : Box (w.setCell ⟨g, i, none⟩ u) g t (cs.setIfInBounds i u) := by
  unfold Box at h ⊢
  simp [World.setCell, Array.getElem?_modify, h]
theorem Box.below {B : Nat} (h : Box w g t cs) (hb : Below B w w') (hg : g < B) : Box w' g t cs := (hb.block g hg).trans h
theorem Box.grown {row : Option Nat} (h : Box w g t cs) (hb : w.grownBy w' row) (hg : some g ≠ row) : Box w' g t cs := (hb.block g h.lt hg).trans h
end

/-- A result in memory of its own, behind the two stores into the box that it is handed back in. -/
theorem tail2 {w w2 : World} {base g : Nat} {E : TypeId} {size n : Nat} {v : Value} {xs : List Value} (ho : w2.ownsRow base E size v n xs) (hg : g < base) (hb : Below w.heap.size w w2) (hw : w.heap.size ≤ g) (u0 u1 : Value) :
    ((w2.setCell ⟨g, 0, none⟩ u0).setCell ⟨g, 1, none⟩ u1).ownsRow w.heap.size E size v n xs ∧ Below w.heap.size w ((w2.setCell ⟨g, 0, none⟩ u0).setCell ⟨g, 1, none⟩ u1) :=
  ⟨own_base (own_set (own_set ho hg) hg) (by omega), (hb.setCell hw _).setCell hw _⟩

theorem InI.drew {w : World} {A : Option Addr} {n : Nat} {xs : List Int} (h : InI w A n xs) : InI w.drew A n xs := h
theorem tail_facts {w W w2 : World} {g N c : Nat} {t : TypeId} {cs : Array Value} {E : TypeId} {A : Option Addr} {xs : List Value} (hbx : Box W g t cs) (hb : Below W.heap.size W w2) (hbw : Below w.heap.size w W) (hg : w.heap.size ≤ g) (ho : w2.ownsRow W.heap.size E 1 (.slice A N c) N xs) :
    w2.cell? ⟨g, 0, none⟩ = cs[0]? ∧ w2.cell? ⟨g, 1, none⟩ = cs[1]? ∧ w2.frozen? ⟨g, 0, none⟩ = false ∧ w2.frozen? ⟨g, 1, none⟩ = false ∧
      ∀ u0 u1, ((w2.setCell ⟨g, 0, none⟩ u0).setCell ⟨g, 1, none⟩ u1).ownsRow w.heap.size E 1 (.slice A N c) N xs ∧ Below w.heap.size w ((w2.setCell ⟨g, 0, none⟩ u0).setCell ⟨g, 1, none⟩ u1) := by
  have bx := hbx.below hb hbx.lt
  exact ⟨bx.cell 0, bx.cell 1, bx.free 0, bx.free 1, fun u0 u1 => tail2 ho hbx.lt (hbw.trans (hb.mono hbw.size)) hg u0 u1⟩

theorem limbs_bd {l : List Int} (h : InR l) : ∀ z ∈ l, -9223372036854775808 ≤ z ∧ z ≤ 9223372036854775807 := fun z hz => by have := h z hz; omega
theorem in_own {w : World} {base c : Nat} {A : Option Addr} {r : List Int} (h : Ok r) (ho : w.ownsRow base 3 1 (.slice A r.length c) r.length (r.map (.int .i64))) : InI w A r.length r :=
  ⟨rfl, by have := h.2; omega, Reads.of_own ho, limbs_bd h.1.1⟩

def ToBigEnd (g : Bool) (n : Nat) (xs : List Int) (w w' : World) (e : Ending) : Prop := ∃ v, e = .returned (.agg #[.bool g, v]) ∧ w'.ownsRow w.heap.size 3 1 v n (xs.map (.int .i64)) ∧ Below w.heap.size w w'




set_option maxHeartbeats 400000 in
theorem szIntS_neg (A : Option Addr) (n c : Nat) (left : Int) (w : World) (h0 : 0 ≤ left) (hl : left ≤ 1048576) (hm : n ≤ maxLen) (h : left - n < 0) :
    Calls Try.prog 66 #[.slice A n c, .int .i64 left] w fun e w' => e = .returned (.int .i64 (-1)) ∧ w = w' := by
  unfold maxLen at hm
  go_enter Try.func66, Try.ntmps66
  go_wp2_with fail
  go_ret
  exact ⟨rfl, rfl⟩
set_option maxHeartbeats 400000 in
theorem szIntS_pos (A : Option Addr) (n c : Nat) (left : Int) (w : World) (h0 : 0 ≤ left) (hl : left ≤ 1048576) (h : ¬ left - n < 0) :
    Calls Try.prog 66 #[.slice A n c, .int .i64 left] w fun e w' => e = .returned (.int .i64 (left - n)) ∧ w = w' := by
  go_enter Try.func66, Try.ntmps66
  go_wp2_with fail
  go_ret
  exact ⟨rfl, rfl⟩
end Go.Proofs.Ytipmeijfmiiedaa
namespace Go.Proofs.Ytipmeijfmiiedaa
set_option maxRecDepth 100000
open Go.RowKit

theorem run_append_none {P : Program} (w : World) (base : Nat) (t ty e : TypeId) (i : TypeInfo) (ht : P.underlying t = some (.slice e)) (hi : P.info? e = some i) (v : Value) (n : Nat) (xs : List Value) (hown : w.ownsRow base e i.size v n xs) (c : Nat) :
    (Builtin.append_ #[t, t] ty #[v, .slice none 0 c]).run P w = .ok v w := by
  rcases hown.2 with ⟨rfl, rfl⟩ | ⟨g, cap, cur, rfl, hbg, hg, hnc, hcm, hcs, htake⟩
  · simp [Builtin.append_, run_underlying ht, sizeOf, typeInfo, hi, Builtin.lenOf, Builtin.firstCells]
  · have h := run_append_room_src (P := P) w t t ty e i ht hi g 0 n cap (.slice none 0 c) 0 [] (Src.ofNil w ht c) (by omega) (by simp) (by simp)
    rw [h]; rfl

theorem wpList_append_reads {P : Program} {w : World} {ops : Array Oper} {rest : List Oper} {o : Oper} {a : Act} {Q : Exit → Act → World → Prop} (hgd : o.guard = none) (s x : Operand) (t : TypeId)
    (ho : o.op = .call { callee := .builtin .append, args := #[s, x], argTypes := #[t, t] })
    (base : Nat) (e : TypeId) (i : TypeInfo) (z : Value) (bytes : Nat) (ht : P.underlying t = some (.slice e)) (hi : P.info? e = some i) (hz : i.zero = some z)
    (hsize : i.size = 1) (hby : i.bytes = bytes) (hzs : z.cells.size = 1)
    (v : Value) (n : Nat) (xs : List Value) (hs : a.eval s = v) (hown : w.ownsRow base e 1 v n xs)
    (A : Option Addr) (m c : Nat) (news : List Value) (hx : a.eval x = .slice A m c) (hl : news.length = m) (hr : Reads w A news) (h1 : ∀ u ∈ news, u.oneCell' = true)
    (h63 : n + m ≤ maxLen) (hbytes : (n + m) * bytes ≤ 140737488355328) (hbase : base ≤ w.heap.size)
    (h : ∀ v' w', w'.ownsRow base e 1 v' (n + m) (xs ++ news) → w.grownBy w' v.ownBlock → wpList P ops Q rest (a.put o.dst v') w') : wpList P ops Q (o :: rest) a w := by
  cases A with
  | some ad =>
    refine wpList_append_own w hgd s x t ho base e i z 1 bytes ht hi hz hsize hby hzs (by decide) v n xs hs hown ad m c news hx (by omega) (fun j u hu => ?_) h1 h63 hbytes hbase (fun v' w' h2 h3 _ => h v' w' h2 h3)
    rcases hr with rfl | ⟨b, o, he, _, hc⟩
    · simp at hu
    · cases he
      obtain ⟨hj, rfl⟩ := List.getElem?_eq_some_iff.1 hu
      have := hc j hj
      simpa [Addr.add_lit] using this
  | none =>
    have hn : news = [] := by
      rcases hr with rfl | ⟨b, o, he, _⟩
      · rfl
      · cases he
    subst hn
    obtain rfl : m = 0 := by simpa using hl.symm
    have hrun := run_append_none (P := P) w base t o.type e i ht hi v n xs (by rw [hsize]; exact hown) c
    refine wpList_plain hgd fun K hK => ?_
    unfold Oper.wp execOp
    simp only [ho, resolve, invoke, builtin, Sem.run_bind, Sem.run_pure, Result.andThen_ok, List.map_toArray, List.map_cons, List.map_nil, hs, hx, hrun]
    exact hK _ _ (h v w (by simpa using hown) (World.grownBy.refl _ _))

/-- A copy of a list of ints. -/
def CloneEnd (xs : List Int) (w w' : World) (e : Ending) : Prop := ∃ v, e = .returned v ∧ w'.ownsRow w.heap.size 3 1 v xs.length (xs.map (.int .i64)) ∧ Below w.heap.size w w'
set_option maxHeartbeats 400000 in
theorem clone_any (A : Option Addr) (n c : Nat) (xs : List Int) (w : World) (hn : xs.length = n) (hm : n ≤ 1048576) (hr : Reads w A (xs.map (.int .i64))) :
    Calls Try.prog 53 #[.slice A n c] w fun e w' => CloneEnd xs w w' e := by
  obtain ⟨i0, hi, hz0, hz1, hz2⟩ := info_parts Try.infoI
  have heq := fun wx => Lib.run_eql_slice_nil (P := Try.prog) wx 27 3 A n c 0 0 Try.underlying27
  have Hn := Lib.hid hn
  have Hr := Lib.hid hr
  clear hn hr
  cases A with
  | none =>
    have hx : Hid (xs = []) := by
      rcases Hr.out with h | ⟨b, o, he, _⟩
      · exact List.map_eq_nil_iff.1 h
      · cases he
    go_enter Try.func53, Try.ntmps53
    go_wp2_with fail
    go_ret
    exact ⟨_, rfl, by rw [hx.out]; exact World.ownsRow_nil _ _ _ _, Below.refl _ _⟩
  | some ad =>
    go_enter Try.func53, Try.ntmps53
    have hrd : Reads (w.alloc (.cells #[] 3)) (some ad) (xs.map (.int .i64)) := Hr.out.below ((Below.refl _ _).alloc (Nat.le_refl _) _)
    have hlen : (xs.map (Value.int .i64)).length = n := by rw [List.length_map, Hn.out]
    have h63 : 0 + n ≤ maxLen := by unfold maxLen; omega
    have hby : (0 + n) * 8 ≤ 140737488355328 := by omega
    have hbs : w.heap.size ≤ (w.alloc (.cells #[] 3)).heap.size := by simp
    have HL := Lib.hid hlen
    have HR := Lib.hid hrd
    clear hlen hrd
    go_wp2_with (at_builtin; refine wpList_append_reads rfl _ _ 27 rfl w.heap.size 3 i0 (.int .i64 0) 8 Try.underlying27 hi hz0 hz1 hz2 rfl _ _ _ rfl (World.ownsRow_lit w #[] 0 (Nat.le_refl _) (by simp) (by simp)) (some ad) n c (xs.map (.int .i64)) rfl HL.out HR.out (by simp [Value.oneCell']) h63 hby hbs ?_)
    intro v' w' hown hg
    have hfin : Hid (CloneEnd xs w w' (.returned v')) := by
      refine ⟨v', rfl, by simpa [Hn.out] using hown, ?_⟩
      exact ((Below.refl w.heap.size w).alloc (Nat.le_refl _) _).grown hg (by simp) (fun k hk => by simp [Value.ownBlock] at hk; omega)
    clear hown hg
    go_wp2_with fail
    go_ret
    exact hfin.out
end Go.Proofs.Ytipmeijfmiiedaa
namespace Go.Proofs.Ytipmeijfmiiedaa
set_option maxRecDepth 100000
open Go.RowKit

/-- R speaks of the blocks F alone, and they are there. -/
structure Holds (w : World) (F : Nat → Prop) (R : World → Prop) : Prop where
  lt : ∀ k, F k → k < w.heap.size
  now : R w
  dep : ∀ w' : World, (∀ k, F k → w'.heap[k]? = w.heap[k]?) → R w'
/-- From w to w' no block that was there is written but those of G. -/
structure Wrote (G : Nat → Prop) (w w' : World) : Prop where
  os : w'.os = w.os
  tape : w'.tape = w.tape
  output : w'.output = w.output
  size : w.heap.size ≤ w'.heap.size
  block : ∀ k, k < w.heap.size → ¬ G k → w'.heap[k]? = w.heap[k]?
section
variable {w w' w'' : World} {F G : Nat → Prop} {R : World → Prop} {B : Nat}
theorem Holds.keep (h : Holds w F R) (hs : w.heap.size ≤ w'.heap.size) (hb : ∀ k, F k → w'.heap[k]? = w.heap[k]?) : Holds w' F R :=
  ⟨fun k hk => Nat.lt_of_lt_of_le (h.lt k hk) hs, h.dep w' hb, fun w'' h2 => h.dep w'' fun k hk => (h2 k hk).trans (hb k hk)⟩
theorem Holds.below (h : Holds w F R) (hb : Below w.heap.size w w') : Holds w' F R := h.keep hb.size fun k hk => hb.block k (h.lt k hk)
theorem Holds.alloc (h : Holds w F R) (o : Obj) : Holds (w.alloc o) F R := h.keep (by simp) fun k hk => Below.heap_alloc w o k (h.lt k hk)
theorem Holds.drew (h : Holds w F R) : Holds w.drew F R := h.keep (Nat.le_refl _) fun _ _ => rfl
theorem Holds.setCell (h : Holds w F R) {p : Addr} (hp : ¬ F p.block) (u : Value) : Holds (w.setCell p u) F R :=
  h.keep (by simp) fun k hk => Below.heap_setCell w p u k fun e => hp (e ▸ hk)
theorem Holds.grown {row : Option Nat} (h : Holds w F R) (hg : w.grownBy w' row) (hne : ∀ k, F k → some k ≠ row) : Holds w' F R :=
  h.keep hg.size fun k hk => hg.block k (h.lt k hk) (hne k hk)
theorem Holds.wrote (h : Holds w F R) (hg : Wrote G w w') (hne : ∀ k, F k → ¬ G k) : Holds w' F R :=
  h.keep hg.size fun k hk => hg.block k (h.lt k hk) (hne k hk)
theorem Wrote.refl (G : Nat → Prop) (w : World) : Wrote G w w := ⟨rfl, rfl, rfl, Nat.le_refl _, fun _ _ _ => rfl⟩
theorem Wrote.trans (h : Wrote G w w') (k : Wrote G w' w'') : Wrote G w w'' :=
  ⟨k.os.trans h.os, k.tape.trans h.tape, k.output.trans h.output, Nat.le_trans h.size k.size, fun j hj hG => (k.block j (Nat.lt_of_lt_of_le hj h.size) hG).trans (h.block j hj hG)⟩
theorem Wrote.mono {G' : Nat → Prop} (h : Wrote G w w') (hG : ∀ k, k < w.heap.size → G k → G' k) : Wrote G' w w' :=
  ⟨h.os, h.tape, h.output, h.size, fun k hk hn => h.block k hk fun g => hn (hG k hk g)⟩
theorem Wrote.of_grown {row : Option Nat} (h : w.grownBy w' row) : Wrote (fun k => row = some k) w w' := ⟨h.os, h.tape, h.output, h.size, fun k hk hn => h.block k hk fun e => hn e.symm⟩
theorem Wrote.of_below (h : Below w.heap.size w w') : Wrote G w w' := ⟨h.os, h.tape, h.output, h.size, fun k hk _ => h.block k hk⟩
theorem Wrote.alloc (h : Wrote G w w') (o : Obj) : Wrote G w (w'.alloc o) := h.trans (Wrote.of_below ((Below.refl _ _).alloc (Nat.le_refl _) o))
theorem Wrote.setCell (h : Wrote G w w') {p : Addr} (hp : G p.block) (u : Value) : Wrote G w (w'.setCell p u) :=
  ⟨h.os, h.tape, h.output, Nat.le_trans h.size (by simp), fun k hk hn => (Below.heap_setCell w' p u k fun e => hn (e ▸ hp)).trans (h.block k hk hn)⟩
theorem Wrote.below {a : World} (h : Below B a w) (hg : Wrote G w w') (hG : ∀ k, G k → B ≤ k) (hB : B ≤ w.heap.size) : Below B a w' :=
  ⟨hg.os.trans h.os, hg.tape.trans h.tape, hg.output.trans h.output, Nat.le_trans h.size hg.size, fun k hk => (hg.block k (by omega) fun g => by have := hG k g; omega).trans (h.block k hk)⟩
end
theorem own_dep {w w' : World} {base : Nat} {E : TypeId} {size n : Nat} {v : Value} {xs : List Value} (h : w.ownsRow base E size v n xs) (hb : ∀ k, v.ownBlock = some k → w'.heap[k]? = w.heap[k]?) : w'.ownsRow base E size v n xs := by
  refine ⟨h.1, ?_⟩
  rcases h.2 with h | ⟨g, cap, cur, rfl, h2, h3, h4⟩
  · exact .inl h
  · exact .inr ⟨g, cap, cur, rfl, h2, (hb g rfl).trans h3, h4⟩
/-- The block of a slice. -/
def blk (v : Value) (k : Nat) : Prop := v.ownBlock = some k
theorem own_holds {w : World} {base : Nat} {E : TypeId} {size n : Nat} {v : Value} {xs : List Value} (h : w.ownsRow base E size v n xs) : Holds w (blk v) fun w => w.ownsRow base E size v n xs :=
  ⟨fun k hk => (h.lt k hk).2, h, fun _ hb => own_dep h hb⟩
end Go.Proofs.Ytipmeijfmiiedaa
namespace Go.Proofs.Ytipmeijfmiiedaa
set_option maxRecDepth 100000
open Go.RowKit

/-- What the digits l spell behind acc. -/
def valFrom (acc : Nat) : List UInt8 → Nat
  | [] => acc
  | c :: r => valFrom (acc * 10 + (c.toNat - 48)) r
theorem valFrom_append (l r : List UInt8) : ∀ acc, valFrom acc (l ++ r) = valFrom (valFrom acc l) r := by
  induction l with
  | nil => intro acc; rfl
  | cons c l ih => intro acc; exact ih _
theorem valFrom_ge (l : List UInt8) : ∀ acc, acc ≤ valFrom acc l := by
  induction l with
  | nil => intro acc; exact Nat.le_refl _
  | cons c l ih => intro acc; have := ih (acc * 10 + (c.toNat - 48)); unfold valFrom; omega
theorem digit_byte {k : Nat} (h : k < 10) : (UInt8.ofNat (48 + k)).toNat = 48 + k := by
  rw [UInt8.toNat_ofNat']; omega
theorem decDigits_last {u : Nat} (h : ¬ u < 10) : Lib.decDigits u = Lib.decDigits (u / 10) ++ [UInt8.ofNat (48 + u % 10)] := by
  rw [Lib.decDigits, dif_neg h]
theorem val_decDigits (u : Nat) : valFrom 0 (Lib.decDigits u) = u := by
  induction u using Nat.strongRecOn with
  | ind u ih =>
    by_cases h : u < 10
    · rw [Lib.decDigits_one h]
      show 0 * 10 + ((UInt8.ofNat (48 + u)).toNat - 48) = u
      rw [digit_byte h]; omega
    · rw [decDigits_last h, valFrom_append, ih (u / 10) (by omega)]
      show u / 10 * 10 + ((UInt8.ofNat (48 + u % 10)).toNat - 48) = u
      rw [digit_byte (by omega)]; omega
theorem dig_decDigits (u : Nat) : (Lib.decDigits u).all digB = true := by
  have hd : ∀ k, k < 10 → digB (UInt8.ofNat (48 + k)) = true := fun k hk => by
    unfold digB; rw [digit_byte hk]; simp; omega
  induction u using Nat.strongRecOn with
  | ind u ih =>
    by_cases h : u < 10
    · rw [Lib.decDigits_one h, List.all_cons, hd u h]; rfl
    · rw [decDigits_last h, List.all_append, ih (u / 10) (by omega), List.all_cons, hd _ (by omega)]; rfl
theorem decDigits_pos (u : Nat) : 0 < (Lib.decDigits u).length := by
  by_cases h : u < 10
  · rw [Lib.decDigits_one h]; simp
  · rw [decDigits_last h]; simp
theorem decDigits_len (u k : Nat) (hk : 0 < k) (h : u < 10 ^ k) : (Lib.decDigits u).length ≤ k := by
  induction k generalizing u with
  | zero => omega
  | succ k ih =>
    by_cases h10 : u < 10
    · rw [Lib.decDigits_one h10]; simp
    · rw [decDigits_last h10, List.length_append]
      have hk0 : 0 < k := by
        rcases Nat.eq_zero_or_pos k with rfl | h'
        · simp at h; omega
        · exact h'
      have := ih (u / 10) hk0 (by rw [Nat.pow_succ] at h; omega)
      simp; omega
theorem digitsB_dec (u : Nat) : digitsB (Lib.decDigits u) = true := by
  unfold digitsB; rw [dig_decDigits, decide_eq_true (decDigits_pos u)]; rfl
theorem digB_range {c : UInt8} (h : digB c = true) : 48 ≤ c.toNat ∧ c.toNat ≤ 57 := by
  unfold digB at h; simpa using h
theorem parse_digits (l : List UInt8) : ∀ acc, l.all digB = true → valFrom acc l < 18446744073709551616 → Lib.parseUint10 acc l = .ok (valFrom acc l) := by
  induction l with
  | nil => intro acc _ _; rfl
  | cons c l ih =>
    intro acc hd hv
    rw [List.all_cons, Bool.and_eq_true] at hd
    obtain ⟨h1, h2⟩ := digB_range hd.1
    unfold valFrom at hv
    have hge := valFrom_ge l (acc * 10 + (c.toNat - 48))
    unfold Lib.parseUint10 valFrom
    rw [if_pos ⟨h1, h2⟩, if_neg (by omega), if_neg (by omega)]
    exact ih _ hd.2 hv

/-- s is the numeral of the int m. -/
def Num (l : List UInt8) (m : Int) : Prop := -9223372036854775808 ≤ m ∧ m ≤ 9223372036854775807 ∧ Lib.itoa m = l
theorem dec_inj {u v : Nat} (h : Lib.decDigits u = Lib.decDigits v) : u = v := by
  have := congrArg (valFrom 0) h
  rwa [val_decDigits, val_decDigits] at this
theorem dec_head (u : Nat) : ∃ c r, Lib.decDigits u = c :: r ∧ digB c = true := by
  have h := decDigits_pos u
  have hd := dig_decDigits u
  match hl : Lib.decDigits u with
  | [] => rw [hl] at h; simp at h
  | c :: r => rw [hl, List.all_cons, Bool.and_eq_true] at hd; exact ⟨c, r, rfl, hd.1⟩
theorem itoa_inj {m n : Int} (h : Lib.itoa m = Lib.itoa n) : m = n := by
  have minus : ∀ u v : Nat, (45 : UInt8) :: Lib.decDigits u = Lib.decDigits v → False := fun u v h => by
    obtain ⟨c, r, hc, hd⟩ := dec_head v
    rw [hc] at h
    injection h with h1 _
    rw [← h1] at hd
    exact absurd hd (by decide)
  unfold Lib.itoa at h
  by_cases hm : m < 0 <;> by_cases hn : n < 0
  · rw [if_pos hm, if_pos hn] at h
    injection h with _ h
    have := dec_inj h; omega
  · rw [if_pos hm, if_neg hn] at h; exact (minus _ _ h).elim
  · rw [if_neg hm, if_pos hn] at h; exact (minus _ _ h.symm).elim
  · rw [if_neg hm, if_neg hn] at h
    have := dec_inj h; omega
theorem Num.unique {l : List UInt8} {m n : Int} (hm : Num l m) (hn : Num l n) : m = n := itoa_inj (hm.2.2.trans hn.2.2.symm)

theorem atoi_itoa {m : Int} (h0 : -9223372036854775808 ≤ m) (h1 : m ≤ 9223372036854775807) : Lib.atoiAll (Lib.itoa m) = .ok m := by
  have mag : ∀ u : Nat, u < 18446744073709551616 → Lib.parseMag (Lib.decDigits u) = .ok u := fun u hu => by
    unfold Lib.parseMag
    rw [if_neg (by intro h; have := decDigits_pos u; rw [h] at this; simp at this), parse_digits _ 0 (dig_decDigits u) (by rw [val_decDigits]; exact hu), val_decDigits]
  unfold Lib.itoa
  by_cases hm : m < 0
  · rw [if_pos hm]
    unfold Lib.atoiAll
    simp only [show ((45 : UInt8).toNat = 43 ∨ (45 : UInt8).toNat = 45) = True from by simp, if_true]
    rw [mag _ (by omega)]
    simp only [show ((45 : UInt8).toNat = 45) = True from by simp, not_true, false_and, if_false, true_and, if_true]
    rw [if_neg (by omega)]
    congr 1; omega
  · rw [if_neg hm]
    obtain ⟨c, r, hc, hd⟩ := dec_head m.toNat
    obtain ⟨d1, d2⟩ := digB_range hd
    rw [hc]
    unfold Lib.atoiAll
    simp only [show (c.toNat = 43 ∨ c.toNat = 45) = False from by simp; omega, if_false]
    rw [← hc, mag _ (by omega)]
    simp only [show (c.toNat = 45) = False from by simp; omega, not_false_eq_true, true_and, false_and, if_false]
    rw [if_neg (by omega)]
    congr 1; omega
/-- What ParseInt returns: the int whose numeral l is, or 0 and false. -/
def ParseIs (l : List UInt8) (v : Int) (b : Bool) : Prop := (b = true ∧ Num l v) ∨ (b = false ∧ v = 0 ∧ ∀ m, ¬ Num l m)
theorem ParseIs.unique {l : List UInt8} {v v' : Int} {b b' : Bool} (h : ParseIs l v b) (h' : ParseIs l v' b') : v = v' ∧ b = b' := by
  rcases h with ⟨rfl, h⟩ | ⟨rfl, rfl, h⟩ <;> rcases h' with ⟨rfl, h'⟩ | ⟨rfl, rfl, h'⟩
  · exact ⟨h.unique h', rfl⟩
  · exact (h' _ h).elim
  · exact (h _ h').elim
  · exact ⟨rfl, rfl⟩
end Go.Proofs.Ytipmeijfmiiedaa
namespace Go.Proofs.Ytipmeijfmiiedaa
set_option maxRecDepth 100000
open Go.RowKit

theorem valFrom_cons (acc : Nat) (c : UInt8) (l : List UInt8) : valFrom acc (c :: l) = valFrom (acc * 10 + (c.toNat - 48)) l := by conv => lhs; unfold valFrom
theorem valFrom_nil (acc : Nat) : valFrom acc [] = acc := by unfold valFrom; rfl
theorem step10 (a d p v : Nat) : (a * 10 + d) * p + v = a * (p * 10) + ((0 * 10 + d) * p + v) := by
  rw [Nat.add_mul, Nat.add_mul, Nat.mul_assoc, Nat.mul_comm 10 p]; omega
theorem valFrom_acc (l : List UInt8) : ∀ acc, valFrom acc l = acc * 10 ^ l.length + valFrom 0 l := by
  induction l with
  | nil => intro acc; rw [valFrom_nil, valFrom_nil, List.length_nil, Nat.pow_zero]; omega
  | cons c l ih =>
    intro acc
    have h1 := ih (acc * 10 + (c.toNat - 48))
    have h2 := ih (0 * 10 + (c.toNat - 48))
    rw [valFrom_cons, valFrom_cons, h1, h2, List.length_cons, Nat.pow_succ]
    exact step10 acc (c.toNat - 48) (10 ^ l.length) (valFrom 0 l)
theorem valFrom_lt (l : List UInt8) : l.all digB = true → valFrom 0 l < 10 ^ l.length := by
  induction l with
  | nil => intro _; rw [valFrom_nil]; simp
  | cons c l ih =>
    intro h
    rw [List.all_cons, Bool.and_eq_true] at h
    obtain ⟨d1, d2⟩ := digB_range h.1
    have h3 := ih h.2
    rw [valFrom_cons, valFrom_acc, List.length_cons, Nat.pow_succ]
    have h4 : (0 * 10 + (c.toNat - 48)) * 10 ^ l.length ≤ 9 * 10 ^ l.length := Nat.mul_le_mul_right _ (by omega)
    omega
/-- The bytes of s from a up to b. -/
def seg (s : ByteArray) (a b : Nat) : List UInt8 := (s.data.toList.drop a).take (b - a)
theorem seg_nil (s : ByteArray) (a : Nat) : seg s a a = [] := by simp [seg]
theorem seg_len (s : ByteArray) (a b : Nat) (h : b ≤ s.size) : (seg s a b).length = b - a := by
  simp [seg]; omega
theorem seg_snoc (s : ByteArray) (a k : Nat) (ha : a ≤ k) (h : k < s.size) : seg s a (k + 1) = seg s a k ++ [s[k]] := by
  unfold seg
  have hl : k - a < (s.data.toList.drop a).length := by rw [List.length_drop, len_size]; omega
  rw [show k + 1 - a = (k - a) + 1 by omega, List.take_succ_eq_append_getElem hl, List.getElem_drop]
  congr 2
  have e : s[k] = s.data.toList[k]'(by rw [len_size]; exact h) := rfl
  rw [e]
  congr 1; omega
theorem seg_split (s : ByteArray) (a b : Nat) (ha : a ≤ b) : s.data.toList.take b = s.data.toList.take a ++ seg s a b := by
  unfold seg
  rw [← List.take_append_drop a (s.data.toList.take b), List.take_take, List.drop_take, Nat.min_eq_left ha]
theorem seg_all (s : ByteArray) (a b : Nat) (h : s.data.toList.all digB = true) : (seg s a b).all digB = true := by
  rw [List.all_eq_true] at h ⊢
  intro c hc
  exact h c (List.mem_of_mem_drop (List.mem_of_mem_take hc))
theorem valFrom_seg (s : ByteArray) (a b : Nat) (ha : a ≤ b) (hb : b ≤ s.size) : valFrom 0 (s.data.toList.take b) = valFrom 0 (s.data.toList.take a) * 10 ^ (b - a) + valFrom 0 (seg s a b) := by
  rw [seg_split s a b ha, valFrom_append, valFrom_acc, seg_len s a b hb]
/-- What the first e bytes of s are worth. -/
def worth (s : ByteArray) (e : Nat) : Int := (valFrom 0 (s.data.toList.take e) : Nat)
theorem worth_zero (s : ByteArray) : worth s 0 = 0 := by unfold worth; rw [List.take_zero, valFrom_nil]; rfl
theorem worth_nine (s : ByteArray) (e : Nat) (h9 : 9 ≤ e) (he : e ≤ s.size) : worth s e = worth s (e - 9) * 1000000000 + (valFrom 0 (seg s (e - 9) e) : Nat) := by
  unfold worth
  rw [valFrom_seg s (e - 9) e (by omega) he, show e - (e - 9) = 9 by omega]
  simp
theorem worth_last (s : ByteArray) (e : Nat) (he : e ≤ s.size) : worth s e = (valFrom 0 (seg s 0 e) : Nat) := by
  unfold worth
  rw [valFrom_seg s 0 e (by omega) he, List.take_zero, valFrom_nil]; simp
theorem seg_bd (s : ByteArray) (a b : Nat) (h : s.data.toList.all digB = true) (hb : b ≤ s.size) (h9 : b ≤ a + 9) : 0 ≤ ((valFrom 0 (seg s a b) : Nat) : Int) ∧ ((valFrom 0 (seg s a b) : Nat) : Int) ≤ 999999999 := by
  have h1 := valFrom_lt _ (seg_all s a b h)
  rw [seg_len s a b hb] at h1
  have h2 : 10 ^ (b - a) ≤ 10 ^ 9 := Nat.pow_le_pow_right (by omega) (by omega)
  omega
/-- The text of a natural number of at most 540 digits. -/
def NatText (s : ByteArray) : Prop := digitsB s.data.toList = true ∧ s.size ≤ 540 ∧ (s.size ≤ 1 ∨ s.data.toList.head? ≠ some 48)
/-- What ParseNat returns. -/
def ParseNatIs (s : ByteArray) (r : List Int) (b : Bool) : Prop := (b = true ∧ NatText s ∧ Canon r ∧ val r = worth s s.size) ∨ (b = false ∧ r = [] ∧ ¬ NatText s)
theorem parseNat_unique {s : ByteArray} {r r' : List Int} {b b' : Bool} (h : ParseNatIs s r b) (h' : ParseNatIs s r' b') : r = r' ∧ b = b' := by
  rcases h with ⟨rfl, h1, h2, h3⟩ | ⟨rfl, rfl, h1⟩ <;> rcases h' with ⟨rfl, k1, k2, k3⟩ | ⟨rfl, rfl, k1⟩
  · exact ⟨canon_unique h2 k2 (h3.trans k3.symm), rfl⟩
  · exact absurd h1 k1
  · exact absurd k1 h1
  · exact ⟨rfl, rfl⟩
/-- Limbs off the end of s: e bytes are left (none where e is not positive). -/
def LimbsAt (s : ByteArray) (e : Int) (out : List Int) : Prop := InR out ∧ val out + pw out.length * worth s e.toNat = worth s s.size ∧ e + 9 * out.length = s.size
theorem LimbsAt.start (s : ByteArray) : LimbsAt s s.size [] := ⟨InR.nil, by simp [val, pw], by simp⟩
theorem LimbsAt.step {s : ByteArray} {e : Int} {out : List Int} (h : LimbsAt s e out) (h0 : 0 < e) (he : e ≤ s.size) (hd : s.data.toList.all digB = true) {a : Nat} (ha : (a : Int) = if e - 9 < 0 then 0 else e - 9) :
    LimbsAt s (e - 9) (out ++ [((valFrom 0 (seg s a e.toNat) : Nat) : Int)]) ∧ 0 ≤ ((valFrom 0 (seg s a e.toNat) : Nat) : Int) ∧ ((valFrom 0 (seg s a e.toNat) : Nat) : Int) ≤ 999999999 := by
  obtain ⟨h1, h2, h3⟩ := h
  have hb := seg_bd s a e.toNat hd (by omega) (by split at ha <;> omega)
  refine ⟨⟨h1.append (InR.one hb.1 hb.2), ?_, by rw [List.length_append, List.length_singleton]; omega⟩, hb.1, hb.2⟩
  rw [val_snoc, List.length_append, List.length_singleton, pw_add, show pw 1 = 1000000000 from rfl, ← h2]
  by_cases h9 : e < 9
  · rw [show (e - 9).toNat = 0 by omega, worth_zero, worth_last s e.toNat (by omega), show a = 0 by split at ha <;> omega]; simp
  · rw [worth_nine s e.toNat (by omega) (by omega), show (e - 9).toNat = e.toNat - 9 by omega, show a = e.toNat - 9 by split at ha <;> omega]
    grind
theorem LimbsAt.done {s : ByteArray} {e : Int} {out : List Int} (h : LimbsAt s e out) (h0 : e ≤ 0) : InR out ∧ val out = worth s s.size := by
  refine ⟨h.1, ?_⟩
  have h2 := h.2.1
  rw [show e.toNat = 0 by omega, worth_zero, Int.mul_zero, Int.add_zero] at h2
  exact h2
/-- Limbs off the end of s, stored at their places: i are stored. -/
def PlacedAt (s : ByteArray) (M i : Nat) (os : List Int) : Prop := os.length = M ∧ InR os ∧ val os + pw i * worth s (s.size - 9 * i) = worth s s.size ∧ ZeroFrom os i ∧ (i = M → os.getLast? ≠ some 0)
theorem PlacedAt.start (s : ByteArray) (M : Nat) (hM : 0 < M) : PlacedAt s M 0 (List.replicate M 0) := ⟨by simp, zeros_inR _, by rw [zeros_val]; simp [pw], zeros_from _ _, fun h => by omega⟩
theorem first_pos (s : ByteArray) (e : Nat) (he : 0 < e) (hs : e ≤ s.size) (hd : s.data.toList.all digB = true) (h0 : s.data.toList.head? ≠ some 48) : 0 < valFrom 0 (seg s 0 e) := by
  unfold seg
  rw [List.drop_zero, Nat.sub_zero]
  match hl : s.data.toList with
  | [] => have := len_size s; rw [hl] at this; simp at this; omega
  | c :: r =>
    rw [hl, List.all_cons, Bool.and_eq_true] at hd
    rw [hl] at h0
    obtain ⟨d1, d2⟩ := digB_range hd.1
    have hc : c.toNat ≠ 48 := fun e => h0 (by
      have : c = 48 := UInt8.toNat_inj.1 e
      rw [this]; rfl)
    obtain ⟨e', rfl⟩ : ∃ e', e = e' + 1 := ⟨e - 1, by omega⟩
    rw [List.take_succ_cons, valFrom_cons]
    have := valFrom_ge (r.take e') (0 * 10 + (c.toNat - 48))
    omega
theorem PlacedAt.step {s : ByteArray} {M i : Nat} {os : List Int} (h : PlacedAt s M i os) (hi : i < M) (hlo : 9 * i < s.size) (hM : s.size ≤ 9 * M) (hM2 : 9 * M < s.size + 9) (hd : s.data.toList.all digB = true) (h0 : s.data.toList.head? ≠ some 48) {a : Nat} (ha : a = s.size - 9 * i - 9) :
    PlacedAt s M (i + 1) (os.set i ((valFrom 0 (seg s a (s.size - 9 * i)) : Nat) : Int)) ∧ 0 ≤ ((valFrom 0 (seg s a (s.size - 9 * i)) : Nat) : Int) ∧ ((valFrom 0 (seg s a (s.size - 9 * i)) : Nat) : Int) ≤ 999999999 := by
  obtain ⟨h1, h2, h3, h4, h5⟩ := h
  have hb := seg_bd s a (s.size - 9 * i) hd (by omega) (by omega)
  have hio : i < os.length := by omega
  refine ⟨⟨by simpa using h1, h2.set i hb.1 hb.2, ?_, h4.set_last _, fun e => ?_⟩, hb.1, hb.2⟩
  · rw [val_set _ _ _ hio, h4 i hio (Nat.le_refl _), pw, ← h3]
    by_cases h9 : s.size - 9 * i < 9
    · rw [show s.size - 9 * (i + 1) = 0 by omega, worth_zero, worth_last s (s.size - 9 * i) (by omega), show a = 0 by omega]; simp
    · rw [worth_nine s (s.size - 9 * i) (by omega) (by omega), show s.size - 9 * (i + 1) = s.size - 9 * i - 9 by omega, ha]
      grind
  · rw [last_at (m := i) (by simp; omega), List.getElem_set_self]
    have := first_pos s (s.size - 9 * i) (by omega) (by omega) hd h0
    rw [show a = 0 by omega]
    simp; omega
theorem PlacedAt.done {s : ByteArray} {M : Nat} {os : List Int} (h : PlacedAt s M M os) (hM : s.size ≤ 9 * M) : Canon os ∧ val os = worth s s.size := by
  obtain ⟨h1, h2, h3, h4, h5⟩ := h
  rw [show s.size - 9 * M = 0 by omega, worth_zero, Int.mul_zero, Int.add_zero] at h3
  exact ⟨⟨h2, h5 rfl⟩, h3⟩
end Go.Proofs.Ytipmeijfmiiedaa
