/- Contracts of PadZeros and Join: the model's and the program's. -/
import Derived.Test.YtbfanjalinkmhaaDoorMem
import Derived.Test.YtbfanjalinkmhaaDoorShelf
import Derived.Lib.Repeat
import Derived.Lib.Join
namespace Go.Proofs.YtbfanjalinkmhaaDoor
set_option maxRecDepth 100000
open Go.RowKit

/-- j zeros, then l. -/
def zs (j : Nat) (l : List UInt8) : ByteArray := ⟨(List.replicate j 48 ++ l).toArray⟩
theorem zs_zero (s : ByteArray) : zs 0 s.data.toList = s := by simp [zs]
theorem zs_succ (j : Nat) (l : List UInt8) : (⟨#[48]⟩ : ByteArray) ++ zs j l = zs (j + 1) l := by
  unfold zs
  rw [show (⟨#[48]⟩ : ByteArray) = ⟨[48].toArray⟩ from rfl, ByteArray.mk_append_mk, List.replicate_succ]; rfl
theorem zs_size (j : Nat) (l : List UInt8) : (zs j l).size = j + l.length := by
  show (List.replicate j (48 : UInt8) ++ l).toArray.size = _
  simp
def padZ (s : ByteArray) (n : Int) : ByteArray := if 2000 < n then s else zs (n - s.size).toNat s.data.toList

set_option maxHeartbeats 400000 in
theorem spec_padZeros (s : ByteArray) (n : Int) (w : World) :
    Calls Tryd.prog 26 #[.string s, .int .i64 n] w fun e w' => e = .returned (.string (padZ s n)) ∧ w = w' := by
  by_cases hb : 2000 < n
  · have hp : Hid (padZ s n = s) := by unfold Hid padZ; rw [if_pos hb]
    go_enter Tryd.func26, Tryd.ntmps26
    go_wp2
    go_ret
    exact ⟨ret_str hp.out.symm, rfl⟩
  · have hp : Hid (padZ s n = zs (n - s.size).toNat s.data.toList) := by unfold Hid padZ; rw [if_neg hb]
    have h0 : Hid (s = zs 0 s.data.toList) := (zs_zero s).symm
    go_enter Tryd.func26, Tryd.ntmps26
    go_wp2
    go_loop [0] (fun x => ∃ j : Nat, j ≤ (n - s.size).toNat ∧ x = .string (zs j s.data.toList)) (fun x => match x with | .string b => (n - b.size).toNat | _ => 0)
    case atStart => exact ⟨0, Nat.zero_le _, congrArg Value.string h0.out⟩
    case round =>
      obtain ⟨j, hj, rfl⟩ := hrel
      have hsz := zs_size j s.data.toList
      rw [len_size] at hsz
      by_cases hlt : ((zs j s.data.toList).size : Int) < n
      · have Hsz := Lib.hid hsz
        have hadd : (j : Int) + s.size < n := by omega
        have hz2 := Lib.hid (zs_succ j s.data.toList)
        have hs2 := Lib.hid (zs_size (j + 1) s.data.toList)
        clear hsz
        go_wp2
        go_round
        case rel => exact ⟨j + 1, by omega, congrArg Value.string hz2.out⟩
        case measure =>
          rw [hz2.out]
          have h1 := hs2.out
          have h2 := Hsz.out
          rw [len_size] at h1
          simp only [h1, h2]; omega
      · have he : j = (n - s.size).toNat := by omega
        have He := Lib.hid he
        clear he hsz
        go_wp2
        go_ret
        exact ⟨ret_str (by rw [hp.out, He.out]), rfl⟩

theorem repeat_zero : ∀ c : Nat, Lib.repeatL [48] c = List.replicate c (48 : UInt8) := fun c => by
  have := Lib.repeatL_replicate (48 : UInt8) 1 c
  simpa using this
set_option maxHeartbeats 400000 in
theorem impl_padZeros (s : ByteArray) (n : Int) (w : World) (hs : s.size ≤ maxLen) :
    Calls Tryd.prog 42 #[.string s, .int .i64 n] w fun e w' => e = .returned (.string (padZ s n)) ∧ Below w.heap.size w w' := by
  unfold maxLen at hs
  by_cases hb : 2000 < n
  · have hp : Hid (padZ s n = s) := by unfold Hid padZ; rw [if_pos hb]
    go_enter Tryd.func42, Tryd.ntmps42
    go_wp2
    go_ret
    exact ⟨ret_str hp.out.symm, Below.refl _ _⟩
  by_cases hc : n ≤ (s.size : Int)
  · have hp : Hid (padZ s n = s) := by
      unfold Hid padZ
      rw [if_neg hb, show (n - (s.size : Int)).toNat = 0 by omega, zs_zero]
    go_enter Tryd.func42, Tryd.ntmps42
    go_wp2
    go_ret
    exact ⟨ret_str hp.out.symm, Below.refl _ _⟩
  · obtain ⟨c, hcn⟩ : ∃ c : Nat, (c : Int) = n - s.size := ⟨(n - s.size).toNat, by omega⟩
    have hp : Hid ((⟨(Lib.repeatL [48] c).toArray⟩ : ByteArray) ++ s = padZ s n) := by
      unfold Hid padZ
      rw [if_neg hb, ← hcn, Int.toNat_natCast, repeat_zero]
      have e1 : s = ⟨s.data.toList.toArray⟩ := by simp
      conv => lhs; rw [e1]
      rw [ByteArray.mk_append_mk]; rfl
    have hlen : Hid ((⟨(Lib.repeatL [48] c).toArray⟩ : ByteArray).size = c) := by
      unfold Hid
      show (Lib.repeatL [48] c).toArray.size = c
      rw [repeat_zero]; simp
    have Hcn := Lib.hid hcn
    have hcb : (c : Int) ≤ 2000 := by omega
    clear hcn
    go_enter Tryd.func42, Tryd.ntmps42
    go_wp2_with fail
    rw [← Hcn.out]
    refine (Tryd.strings_Repeat ⟨#[48]⟩ c _ (by omega) (by show 1 * c ≤ _; omega)).mono ?_
    rintro e w1 ⟨rfl, hb1⟩
    obtain ⟨z, hz⟩ : ∃ z : ByteArray, z = ⟨(Lib.repeatL [48] c).toArray⟩ := ⟨_, rfl⟩
    have Hz := Lib.hid hz
    rw [show (⟨(Lib.repeatL (ByteArray.mk #[48]).data.toList c).toArray⟩ : ByteArray) = z from hz.symm]
    have hzs : z.size ≤ 2000 := by rw [hz, hlen.out]; omega
    have HB := Lib.hid hb1
    clear hz hb1
    go_wp2_with fail
    go_ret
    exact ⟨ret_str (by rw [← hp.out, Hz.out]), HB.out⟩
end Go.Proofs.YtbfanjalinkmhaaDoor
