/- The walk of the law: for all arguments the law FnExactSameLoads returns true: the program's SameLoads answers as the model's; no condition on them. -/
import Derived.Test.YtipmeijfmiiedaaStM6
import Derived.Test.YtipmeijfmiiedaaLdQ
import Derived.ProofKit
import Derived.OpenShut
import Derived.ShutString
import Derived.Lib.SmallJoins
namespace Go.Proofs.Ytipmeijfmiiedaa.fnExactSameLoads
set_option maxRecDepth 100000
open Go.ChangeShapes Go.WideShapes Go.ChangeAt Go.RowKit Go.Joins Go.Deep
open Go.ChangeMaps (open_string shut_string)

set_option maxRecDepth 100000 in
set_option maxHeartbeats 16000000 in
theorem walk {w : World} (a0 : Option Addr) (len0 cap0 : Nat) (z0 : List Int) (hz0 : IsInts w a0 len0 z0) (a1 : Option Addr) (len1 cap1 : Nat) (z1 : List Int) (hz1 : IsInts w a1 len1 z1) :
    Calls Try.prog 10 #[.slice a0 len0 cap0, .slice a1 len1 cap1] w fun e w' => e = .returned (.bool true) ∧ Below w.heap.size w w' := by
  have hmz0 : len0 ≤ maxLen := hz0.2.1
  have Hz0 := Lib.hid hz0
  clear hz0
  have hmz1 : len1 ≤ maxLen := hz1.2.1
  have Hz1 := Lib.hid hz1
  clear hz1
  have BW0 : Hid (Below w.heap.size w w) := Below.refl _ _
  by_cases biga0 : 1048576 < (len0 : Int)
  · go_enter Try.func10, Try.ntmps10
    go_wp2_with fail
    go_ret
    exact ⟨rfl, BW0.out⟩
  by_cases biga1 : 1048576 < (len1 : Int)
  · go_enter Try.func10, Try.ntmps10
    go_wp2_with fail
    go_ret
    exact ⟨rfl, BW0.out⟩
  have Inz0 : Hid (InI w a0 len0 z0) := ⟨Hz0.out.1, by omega, Hz0.out.2.2.1, Hz0.out.2.2.2⟩
  have Inz1 : Hid (InI w a1 len1 z1) := ⟨Hz1.out.1, by omega, Hz1.out.2.2.1, Hz1.out.2.2.2⟩
  go_enter Try.func10, Try.ntmps10
  go_wp2_with fail
  refine (toIntS_any a0 len0 cap0 z0 _ Inz0.out.len Inz0.out.le (Inz0.out.rd.below BW0.out)).mono ?_
  rintro e w1 ⟨v, rfl, ho, hb⟩
  have BW1 := Lib.hid (BW0.out.trans (hb.mono BW0.out.size))
  have sz1 : Hid (w.heap.size ≤ w1.heap.size) := hb.size
  obtain ⟨At1, ct1, rfl⟩ := own_slice ho
  have Ut1 := Lib.hid (show ∀ k, blk _ k → _ ∧ _ from fun k hk => ho.lt k hk)
  have Rt1_1 := Lib.hid (own_holds ho)
  clear ho hb
  go_wp2_with fail
  refine (toIntS_any a1 len1 cap1 z1 _ Inz1.out.len Inz1.out.le (Inz1.out.rd.below BW1.out)).mono ?_
  rintro e w2 ⟨v, rfl, ho, hb⟩
  have BW2 := Lib.hid (BW1.out.trans (hb.mono BW1.out.size))
  have sz2 : Hid (w1.heap.size ≤ w2.heap.size) := hb.size
  have Rt1_2 := Lib.hid (Rt1_1.out.below hb)
  obtain ⟨At2, ct2, rfl⟩ := own_slice ho
  have Ut2 := Lib.hid (show ∀ k, blk _ k → _ ∧ _ from fun k hk => ho.lt k hk)
  have Rt2_2 := Lib.hid (own_holds ho)
  clear ho hb
  go_wp2_with fail
  refine (spec_sameLoads At1 len0 ct1 z0 At2 len1 ct2 z1 _ (Inz0.out.own (inow Rt1_2)) (Inz1.out.own (inow Rt2_2))).mono ?_
  rintro e w3 ⟨r1_0, rfl, his, hb⟩
  have BW3 := Lib.hid (BW2.out.trans (hb.mono BW2.out.size))
  have sz3 : Hid (w2.heap.size ≤ w3.heap.size) := hb.size
  have Rt1_3 := Lib.hid (Rt1_2.out.below hb)
  have Rt2_3 := Lib.hid (Rt2_2.out.below hb)
  have IS := Lib.hid his
  clear his
  clear hb
  clear Rt1_3 Ut1
  clear Rt2_3 Ut2
  go_wp2_with fail
  refine (toIntS_any a0 len0 cap0 z0 _ Inz0.out.len Inz0.out.le (Inz0.out.rd.below BW3.out)).mono ?_
  rintro e w4 ⟨v, rfl, ho, hb⟩
  have BW4 := Lib.hid (BW3.out.trans (hb.mono BW3.out.size))
  have sz4 : Hid (w3.heap.size ≤ w4.heap.size) := hb.size
  obtain ⟨Ax0, cx0, rfl⟩ := own_slice ho
  have Ux0 := Lib.hid (show ∀ k, blk _ k → _ ∧ _ from fun k hk => ho.lt k hk)
  have Rx0_4 := Lib.hid (own_holds ho)
  clear ho hb
  go_wp2_with fail
  refine (toIntS_any a1 len1 cap1 z1 _ Inz1.out.len Inz1.out.le (Inz1.out.rd.below BW4.out)).mono ?_
  rintro e w5 ⟨v, rfl, ho, hb⟩
  have BW5 := Lib.hid (BW4.out.trans (hb.mono BW4.out.size))
  have sz5 : Hid (w4.heap.size ≤ w5.heap.size) := hb.size
  have Rx0_5 := Lib.hid (Rx0_4.out.below hb)
  obtain ⟨Ax1, cx1, rfl⟩ := own_slice ho
  have Ux1 := Lib.hid (show ∀ k, blk _ k → _ ∧ _ from fun k hk => ho.lt k hk)
  have Rx1_5 := Lib.hid (own_holds ho)
  clear ho hb
  go_wp2_with fail
  refine (impl_sameLoads Ax0 len0 cx0 z0 Ax1 len1 cx1 z1 _ (Inz0.out.own (inow Rx0_5)) (Inz1.out.own (inow Rx1_5))).mono ?_
  rintro e w6 ⟨r2_0, rfl, his, hb⟩
  have BW6 := Lib.hid (BW5.out.trans (hb.mono BW5.out.size))
  have sz6 : Hid (w5.heap.size ≤ w6.heap.size) := hb.size
  have Rx0_6 := Lib.hid (Rx0_5.out.below hb)
  have Rx1_6 := Lib.hid (Rx1_5.out.below hb)
  obtain rfl := sameLoads_unique IS.out his
  clear his
  clear hb
  go_wp2_with fail
  refine (toIntS_any a0 len0 cap0 z0 _ Inz0.out.len Inz0.out.le (Inz0.out.rd.below BW6.out)).mono ?_
  rintro e w7 ⟨v, rfl, ho, hb⟩
  have BW7 := Lib.hid (BW6.out.trans (hb.mono BW6.out.size))
  have sz7 : Hid (w6.heap.size ≤ w7.heap.size) := hb.size
  have Rx0_7 := Lib.hid (Rx0_6.out.below hb)
  have Rx1_7 := Lib.hid (Rx1_6.out.below hb)
  obtain ⟨At3, ct3, rfl⟩ := own_slice ho
  have Ut3 := Lib.hid (show ∀ k, blk _ k → _ ∧ _ from fun k hk => ho.lt k hk)
  have Rt3_7 := Lib.hid (own_holds ho)
  clear ho hb
  go_wp2_with fail
  refine (eqIntS_same Ax0 At3 len0 cx0 ct3 z0 _ Inz0.out.len (by unfold maxLen; omega) (Reads.of_own (inow Rx0_7)) (Reads.of_own (inow Rt3_7))).mono ?_
  rintro e w8 ⟨rfl, hb⟩
  have BW8 := Lib.hid (BW7.out.trans (hb.mono BW7.out.size))
  have sz8 : Hid (w7.heap.size ≤ w8.heap.size) := hb.size
  have Rx0_8 := Lib.hid (Rx0_7.out.below hb)
  have Rx1_8 := Lib.hid (Rx1_7.out.below hb)
  have Rt3_8 := Lib.hid (Rt3_7.out.below hb)
  clear hb
  clear Rx0_8 Ux0
  clear Rt3_8 Ut3
  go_wp2_with fail
  refine (toIntS_any a1 len1 cap1 z1 _ Inz1.out.len Inz1.out.le (Inz1.out.rd.below BW8.out)).mono ?_
  rintro e w9 ⟨v, rfl, ho, hb⟩
  have BW9 := Lib.hid (BW8.out.trans (hb.mono BW8.out.size))
  have sz9 : Hid (w8.heap.size ≤ w9.heap.size) := hb.size
  have Rx1_9 := Lib.hid (Rx1_8.out.below hb)
  obtain ⟨At4, ct4, rfl⟩ := own_slice ho
  have Ut4 := Lib.hid (show ∀ k, blk _ k → _ ∧ _ from fun k hk => ho.lt k hk)
  have Rt4_9 := Lib.hid (own_holds ho)
  clear ho hb
  go_wp2_with fail
  refine (eqIntS_same Ax1 At4 len1 cx1 ct4 z1 _ Inz1.out.len (by unfold maxLen; omega) (Reads.of_own (inow Rx1_9)) (Reads.of_own (inow Rt4_9))).mono ?_
  rintro e w10 ⟨rfl, hb⟩
  have BW10 := Lib.hid (BW9.out.trans (hb.mono BW9.out.size))
  have sz10 : Hid (w9.heap.size ≤ w10.heap.size) := hb.size
  have Rx1_10 := Lib.hid (Rx1_9.out.below hb)
  have Rt4_10 := Lib.hid (Rt4_9.out.below hb)
  clear hb
  clear Rx1_10 Ux1
  clear Rt4_10 Ut4
  go_wp2_with fail
  go_ret
  exact ⟨rfl, BW10.out⟩
end Go.Proofs.Ytipmeijfmiiedaa.fnExactSameLoads
