/- For all arguments the law FnExactNatDiv returns true: the program's NatDiv answers as the model's; no condition on them. -/
import Derived.Test.YteghhaefpbkjnaaNat7
import Derived.ProofKit
import Derived.OpenShut
import Derived.ShutString
namespace Go.Proofs.Yteghhaefpbkjnaa.fnExactNatDiv
open Go.ChangeShapes Go.WideShapes Go.ChangeAt Go.RowKit
open Go.ChangeMaps (open_string shut_string)

set_option maxHeartbeats 1600000 in
theorem walk {w : World} (a0 : Option Addr) (len0 cap0 : Nat) (z0 : List Int) (hz0 : IsInts w a0 len0 z0) (a1 : Option Addr) (len1 cap1 : Nat) (z1 : List Int) (hz1 : IsInts w a1 len1 z1) :
    Calls Try.prog 10 #[.slice a0 len0 cap0, .slice a1 len1 cap1] w fun e w' => e = .returned (.bool true) ∧ Below w.heap.size w w' := by
  have Hz0 := Lib.hid hz0
  clear hz0
  have Hz1 := Lib.hid hz1
  clear hz1
  by_cases biglen0 : 1048576 < (len0 : Int)
  · go_enter Try.func10, Try.ntmps10
    go_wp2_with fail
    go_ret
    exact ⟨rfl, Below.refl _ _⟩
  by_cases biglen1 : 1048576 < (len1 : Int)
  · go_enter Try.func10, Try.ntmps10
    go_wp2_with fail
    go_ret
    exact ⟨rfl, Below.refl _ _⟩
  have Inz0 : Hid (InI w a0 len0 z0) := ⟨Hz0.out.1, by omega, Hz0.out.2.2.1, Hz0.out.2.2.2⟩
  have Inz1 : Hid (InI w a1 len1 z1) := ⟨Hz1.out.1, by omega, Hz1.out.2.2.1, Hz1.out.2.2.2⟩
  have BW0 : Hid (Below w.heap.size w w) := Below.refl _ _
  go_enter Try.func10, Try.ntmps10
  go_wp2_with fail
  refine (toIntS_any a0 len0 cap0 z0 _ Inz0.out.1 Inz0.out.2.1 (Inz0.out.2.2.1.below BW0.out)).mono ?_
  rintro e w1 ⟨v, rfl, ho, hb⟩
  have BW1 := Lib.hid (BW0.out.trans (hb.mono BW0.out.size))
  have sz1 : w.heap.size ≤ w1.heap.size := hb.size
  obtain ⟨At1, ct1, rfl⟩ := own_slice ho
  have Ut1 := Lib.hid (fun k (hk : (Value.slice At1 len0 ct1).ownBlock = some k) => (ho.lt k hk).2)
  have Ot1_1 := Lib.hid ho
  clear ho
  clear hb
  go_wp2_with fail
  refine (toIntS_any a1 len1 cap1 z1 _ Inz1.out.1 Inz1.out.2.1 (Inz1.out.2.2.1.below BW1.out)).mono ?_
  rintro e w2 ⟨v, rfl, ho, hb⟩
  have BW2 := Lib.hid (BW1.out.trans (hb.mono BW1.out.size))
  have sz2 : w1.heap.size ≤ w2.heap.size := hb.size
  have Ot1_2 := Lib.hid (own_below Ot1_1.out hb)
  obtain ⟨At2, ct2, rfl⟩ := own_slice ho
  have Ut2 := Lib.hid (fun k (hk : (Value.slice At2 len1 ct2).ownBlock = some k) => (ho.lt k hk).2)
  have Ot2_2 := Lib.hid ho
  clear ho
  clear hb
  go_wp2_with fail
  refine (spec_natDiv At1 len0 ct1 z0 At2 len1 ct2 z1 _ ⟨Inz0.out.1, Inz0.out.2.1, Reads.of_own Ot1_2.out, Inz0.out.2.2.2⟩ ⟨Inz1.out.1, Inz1.out.2.1, Reads.of_own Ot2_2.out, Inz1.out.2.2.2⟩).mono ?_
  rintro e w3 ⟨r1_0, v1_0, r1_1, v1_1, rfl, his, ho0, ho1, hap10, hb⟩
  have BW3 := Lib.hid (BW2.out.trans (hb.mono BW2.out.size))
  have sz3 : w2.heap.size ≤ w3.heap.size := hb.size
  have Ot1_3 := Lib.hid (own_below Ot1_2.out hb)
  have Ot2_3 := Lib.hid (own_below Ot2_2.out hb)
  clear hb
  have IS := Lib.hid his
  clear his
  obtain ⟨hl0, ho0⟩ := ho0
  obtain ⟨N0, hN0⟩ : ∃ N, N = r1_0.length := ⟨_, rfl⟩
  rw [← hN0] at hl0 ho0
  have HN0 := Lib.hid hN0.symm
  clear hN0
  obtain ⟨hl1, ho1⟩ := ho1
  obtain ⟨N1, hN1⟩ : ∃ N, N = r1_1.length := ⟨_, rfl⟩
  rw [← hN1] at hl1 ho1
  have HN1 := Lib.hid hN1.symm
  clear hN1
  obtain ⟨Aw0, cw0, rfl⟩ := own_slice ho0
  have Uw0 := Lib.hid (fun k (hk : (Value.slice Aw0 N0 cw0).ownBlock = some k) => (ho0.lt k hk).2)
  have Ow0_3 := Lib.hid ho0
  clear ho0
  obtain ⟨Aw1, cw1, rfl⟩ := own_slice ho1
  have Uw1 := Lib.hid (fun k (hk : (Value.slice Aw1 N1 cw1).ownBlock = some k) => (ho1.lt k hk).2)
  have Ow1_3 := Lib.hid ho1
  clear ho1
  have APw1_w0 := Lib.hid hap10
  have APw0_w1 := Lib.hid hap10.symm
  clear hap10
  clear Ot1_3 Ut1
  clear Ot2_3 Ut2
  go_wp2_with fail
  refine (toIntS_any a0 len0 cap0 z0 _ Inz0.out.1 Inz0.out.2.1 (Inz0.out.2.2.1.below BW3.out)).mono ?_
  rintro e w4 ⟨v, rfl, ho, hb⟩
  have BW4 := Lib.hid (BW3.out.trans (hb.mono BW3.out.size))
  have sz4 : w3.heap.size ≤ w4.heap.size := hb.size
  have Ow0_4 := Lib.hid (own_below Ow0_3.out hb)
  have Ow1_4 := Lib.hid (own_below Ow1_3.out hb)
  obtain ⟨Ax0, cx0, rfl⟩ := own_slice ho
  have Ux0 := Lib.hid (fun k (hk : (Value.slice Ax0 len0 cx0).ownBlock = some k) => (ho.lt k hk).2)
  have Ox0_4 := Lib.hid ho
  clear ho
  clear hb
  go_wp2_with fail
  refine (toIntS_any a1 len1 cap1 z1 _ Inz1.out.1 Inz1.out.2.1 (Inz1.out.2.2.1.below BW4.out)).mono ?_
  rintro e w5 ⟨v, rfl, ho, hb⟩
  have BW5 := Lib.hid (BW4.out.trans (hb.mono BW4.out.size))
  have sz5 : w4.heap.size ≤ w5.heap.size := hb.size
  have Ow0_5 := Lib.hid (own_below Ow0_4.out hb)
  have Ow1_5 := Lib.hid (own_below Ow1_4.out hb)
  have Ox0_5 := Lib.hid (own_below Ox0_4.out hb)
  obtain ⟨Ax1, cx1, rfl⟩ := own_slice ho
  have Ux1 := Lib.hid (fun k (hk : (Value.slice Ax1 len1 cx1).ownBlock = some k) => (ho.lt k hk).2)
  have Ox1_5 := Lib.hid ho
  clear ho
  clear hb
  go_wp2_with fail
  refine (impl_natDiv Ax0 len0 cx0 z0 Ax1 len1 cx1 z1 _ ⟨Inz0.out.1, Inz0.out.2.1, Reads.of_own Ox0_5.out, Inz0.out.2.2.2⟩ ⟨Inz1.out.1, Inz1.out.2.1, Reads.of_own Ox1_5.out, Inz1.out.2.2.2⟩).mono ?_
  rintro e w6 ⟨r2_0, v2_0, r2_1, v2_1, rfl, his, ho0, ho1, hap10, hb⟩
  have BW6 := Lib.hid (BW5.out.trans (hb.mono BW5.out.size))
  have sz6 : w5.heap.size ≤ w6.heap.size := hb.size
  have Ow0_6 := Lib.hid (own_below Ow0_5.out hb)
  have Ow1_6 := Lib.hid (own_below Ow1_5.out hb)
  have Ox0_6 := Lib.hid (own_below Ox0_5.out hb)
  have Ox1_6 := Lib.hid (own_below Ox1_5.out hb)
  clear hb
  obtain ⟨rfl, rfl⟩ := natDiv_unique IS.out his
  clear his
  have ho0 := ho0.2
  rw [HN0.out] at ho0
  have ho1 := ho1.2
  rw [HN1.out] at ho1
  obtain ⟨Ag0, cg0, rfl⟩ := own_slice ho0
  have Ug0 := Lib.hid (fun k (hk : (Value.slice Ag0 N0 cg0).ownBlock = some k) => (ho0.lt k hk).2)
  have Og0_6 := Lib.hid ho0
  clear ho0
  obtain ⟨Ag1, cg1, rfl⟩ := own_slice ho1
  have Ug1 := Lib.hid (fun k (hk : (Value.slice Ag1 N1 cg1).ownBlock = some k) => (ho1.lt k hk).2)
  have Og1_6 := Lib.hid ho1
  clear ho1
  have APg1_g0 := Lib.hid hap10
  have APg0_g1 := Lib.hid hap10.symm
  clear hap10
  go_wp2_with fail
  refine (eqIntS_same Ag0 Aw0 N0 cg0 cw0 r1_0 _ HN0.out (by unfold maxLen; omega) (Reads.of_own Og0_6.out) (Reads.of_own Ow0_6.out)).mono ?_
  rintro e w7 ⟨rfl, hb⟩
  have BW7 := Lib.hid (BW6.out.trans (hb.mono BW6.out.size))
  have sz7 : w6.heap.size ≤ w7.heap.size := hb.size
  have Ow0_7 := Lib.hid (own_below Ow0_6.out hb)
  have Ow1_7 := Lib.hid (own_below Ow1_6.out hb)
  have Ox0_7 := Lib.hid (own_below Ox0_6.out hb)
  have Ox1_7 := Lib.hid (own_below Ox1_6.out hb)
  have Og0_7 := Lib.hid (own_below Og0_6.out hb)
  have Og1_7 := Lib.hid (own_below Og1_6.out hb)
  clear hb
  go_wp2_with fail
  refine (eqIntS_same Ag1 Aw1 N1 cg1 cw1 r1_1 _ HN1.out (by unfold maxLen; omega) (Reads.of_own Og1_7.out) (Reads.of_own Ow1_7.out)).mono ?_
  rintro e w8 ⟨rfl, hb⟩
  have BW8 := Lib.hid (BW7.out.trans (hb.mono BW7.out.size))
  have sz8 : w7.heap.size ≤ w8.heap.size := hb.size
  have Ow0_8 := Lib.hid (own_below Ow0_7.out hb)
  have Ow1_8 := Lib.hid (own_below Ow1_7.out hb)
  have Ox0_8 := Lib.hid (own_below Ox0_7.out hb)
  have Ox1_8 := Lib.hid (own_below Ox1_7.out hb)
  have Og0_8 := Lib.hid (own_below Og0_7.out hb)
  have Og1_8 := Lib.hid (own_below Og1_7.out hb)
  clear hb
  go_wp2_with fail
  refine (toIntS_any a0 len0 cap0 z0 _ Inz0.out.1 Inz0.out.2.1 (Inz0.out.2.2.1.below BW8.out)).mono ?_
  rintro e w9 ⟨v, rfl, ho, hb⟩
  have BW9 := Lib.hid (BW8.out.trans (hb.mono BW8.out.size))
  have sz9 : w8.heap.size ≤ w9.heap.size := hb.size
  have Ow0_9 := Lib.hid (own_below Ow0_8.out hb)
  have Ow1_9 := Lib.hid (own_below Ow1_8.out hb)
  have Ox0_9 := Lib.hid (own_below Ox0_8.out hb)
  have Ox1_9 := Lib.hid (own_below Ox1_8.out hb)
  have Og0_9 := Lib.hid (own_below Og0_8.out hb)
  have Og1_9 := Lib.hid (own_below Og1_8.out hb)
  obtain ⟨At5, ct5, rfl⟩ := own_slice ho
  have Ut5 := Lib.hid (fun k (hk : (Value.slice At5 len0 ct5).ownBlock = some k) => (ho.lt k hk).2)
  have Ot5_9 := Lib.hid ho
  clear ho
  clear hb
  go_wp2_with fail
  refine (eqIntS_same Ax0 At5 len0 cx0 ct5 z0 _ Inz0.out.1 (by unfold maxLen; omega) (Reads.of_own Ox0_9.out) (Reads.of_own Ot5_9.out)).mono ?_
  rintro e w10 ⟨rfl, hb⟩
  have BW10 := Lib.hid (BW9.out.trans (hb.mono BW9.out.size))
  have sz10 : w9.heap.size ≤ w10.heap.size := hb.size
  have Ow0_10 := Lib.hid (own_below Ow0_9.out hb)
  have Ow1_10 := Lib.hid (own_below Ow1_9.out hb)
  have Ox0_10 := Lib.hid (own_below Ox0_9.out hb)
  have Ox1_10 := Lib.hid (own_below Ox1_9.out hb)
  have Og0_10 := Lib.hid (own_below Og0_9.out hb)
  have Og1_10 := Lib.hid (own_below Og1_9.out hb)
  have Ot5_10 := Lib.hid (own_below Ot5_9.out hb)
  clear hb
  clear Ot5_10 Ut5
  go_wp2_with fail
  refine (toIntS_any a1 len1 cap1 z1 _ Inz1.out.1 Inz1.out.2.1 (Inz1.out.2.2.1.below BW10.out)).mono ?_
  rintro e w11 ⟨v, rfl, ho, hb⟩
  have BW11 := Lib.hid (BW10.out.trans (hb.mono BW10.out.size))
  have sz11 : w10.heap.size ≤ w11.heap.size := hb.size
  have Ow0_11 := Lib.hid (own_below Ow0_10.out hb)
  have Ow1_11 := Lib.hid (own_below Ow1_10.out hb)
  have Ox0_11 := Lib.hid (own_below Ox0_10.out hb)
  have Ox1_11 := Lib.hid (own_below Ox1_10.out hb)
  have Og0_11 := Lib.hid (own_below Og0_10.out hb)
  have Og1_11 := Lib.hid (own_below Og1_10.out hb)
  obtain ⟨At6, ct6, rfl⟩ := own_slice ho
  have Ut6 := Lib.hid (fun k (hk : (Value.slice At6 len1 ct6).ownBlock = some k) => (ho.lt k hk).2)
  have Ot6_11 := Lib.hid ho
  clear ho
  clear hb
  go_wp2_with fail
  refine (eqIntS_same Ax1 At6 len1 cx1 ct6 z1 _ Inz1.out.1 (by unfold maxLen; omega) (Reads.of_own Ox1_11.out) (Reads.of_own Ot6_11.out)).mono ?_
  rintro e w12 ⟨rfl, hb⟩
  have BW12 := Lib.hid (BW11.out.trans (hb.mono BW11.out.size))
  have sz12 : w11.heap.size ≤ w12.heap.size := hb.size
  have Ow0_12 := Lib.hid (own_below Ow0_11.out hb)
  have Ow1_12 := Lib.hid (own_below Ow1_11.out hb)
  have Ox0_12 := Lib.hid (own_below Ox0_11.out hb)
  have Ox1_12 := Lib.hid (own_below Ox1_11.out hb)
  have Og0_12 := Lib.hid (own_below Og0_11.out hb)
  have Og1_12 := Lib.hid (own_below Og1_11.out hb)
  have Ot6_12 := Lib.hid (own_below Ot6_11.out hb)
  clear hb
  clear Ot6_12 Ut6
  go_wp2_with fail
  refine (markIntS_own _ Ax0 len0 cx0 (1) _ _ (by unfold maxLen; omega) Ox0_12.out (ints_are _)).mono ?_
  rintro e w13 ⟨rfl, ho, hg⟩
  have BW13 := Lib.hid (below_marked BW12.out Ox0_12.out hg (by omega) (by omega))
  have sz13 : w12.heap.size ≤ w13.heap.size := hg.size
  have Ow0_13 := Lib.hid (Ow0_12.out.kept hg (own_apart Ow0_12.out Uw0.out Ox0_12.out Ux0.out (.inl (by omega))))
  have Ow1_13 := Lib.hid (Ow1_12.out.kept hg (own_apart Ow1_12.out Uw1.out Ox0_12.out Ux0.out (.inl (by omega))))
  have Ox1_13 := Lib.hid (Ox1_12.out.kept hg (own_apart Ox1_12.out Ux1.out Ox0_12.out Ux0.out (.inr (by omega))))
  have Og0_13 := Lib.hid (Og0_12.out.kept hg (own_apart Og0_12.out Ug0.out Ox0_12.out Ux0.out (.inr (by omega))))
  have Og1_13 := Lib.hid (Og1_12.out.kept hg (own_apart Og1_12.out Ug1.out Ox0_12.out Ux0.out (.inr (by omega))))
  have Ox0_13 := Lib.hid ho
  clear ho hg
  clear Ox0_13 Ux0
  go_wp2_with fail
  refine (markIntS_own _ Ax1 len1 cx1 (1 + len0) _ _ (by unfold maxLen; omega) Ox1_13.out (ints_are _)).mono ?_
  rintro e w14 ⟨rfl, ho, hg⟩
  have BW14 := Lib.hid (below_marked BW13.out Ox1_13.out hg (by omega) (by omega))
  have sz14 : w13.heap.size ≤ w14.heap.size := hg.size
  have Ow0_14 := Lib.hid (Ow0_13.out.kept hg (own_apart Ow0_13.out Uw0.out Ox1_13.out Ux1.out (.inl (by omega))))
  have Ow1_14 := Lib.hid (Ow1_13.out.kept hg (own_apart Ow1_13.out Uw1.out Ox1_13.out Ux1.out (.inl (by omega))))
  have Og0_14 := Lib.hid (Og0_13.out.kept hg (own_apart Og0_13.out Ug0.out Ox1_13.out Ux1.out (.inr (by omega))))
  have Og1_14 := Lib.hid (Og1_13.out.kept hg (own_apart Og1_13.out Ug1.out Ox1_13.out Ux1.out (.inr (by omega))))
  have Ox1_14 := Lib.hid ho
  clear ho hg
  clear Ox1_14 Ux1
  go_wp2_with fail
  refine (eqIntS_same Ag0 Aw0 N0 cg0 cw0 r1_0 _ HN0.out (by unfold maxLen; omega) (Reads.of_own Og0_14.out) (Reads.of_own Ow0_14.out)).mono ?_
  rintro e w15 ⟨rfl, hb⟩
  have BW15 := Lib.hid (BW14.out.trans (hb.mono BW14.out.size))
  have sz15 : w14.heap.size ≤ w15.heap.size := hb.size
  have Ow0_15 := Lib.hid (own_below Ow0_14.out hb)
  have Ow1_15 := Lib.hid (own_below Ow1_14.out hb)
  have Og0_15 := Lib.hid (own_below Og0_14.out hb)
  have Og1_15 := Lib.hid (own_below Og1_14.out hb)
  clear hb
  go_wp2_with fail
  refine (eqIntS_same Ag1 Aw1 N1 cg1 cw1 r1_1 _ HN1.out (by unfold maxLen; omega) (Reads.of_own Og1_15.out) (Reads.of_own Ow1_15.out)).mono ?_
  rintro e w16 ⟨rfl, hb⟩
  have BW16 := Lib.hid (BW15.out.trans (hb.mono BW15.out.size))
  have sz16 : w15.heap.size ≤ w16.heap.size := hb.size
  have Ow0_16 := Lib.hid (own_below Ow0_15.out hb)
  have Ow1_16 := Lib.hid (own_below Ow1_15.out hb)
  have Og0_16 := Lib.hid (own_below Og0_15.out hb)
  have Og1_16 := Lib.hid (own_below Og1_15.out hb)
  clear hb
  go_wp2_with fail
  refine (markIntS_own _ Ag0 N0 cg0 (1) _ _ (by unfold maxLen; omega) Og0_16.out (ints_are _)).mono ?_
  rintro e w17 ⟨rfl, ho, hg⟩
  have BW17 := Lib.hid (below_marked BW16.out Og0_16.out hg (by omega) (by omega))
  have sz17 : w16.heap.size ≤ w17.heap.size := hg.size
  have Ow0_17 := Lib.hid (Ow0_16.out.kept hg (own_apart Ow0_16.out Uw0.out Og0_16.out Ug0.out (.inl (by omega))))
  have Ow1_17 := Lib.hid (Ow1_16.out.kept hg (own_apart Ow1_16.out Uw1.out Og0_16.out Ug0.out (.inl (by omega))))
  have Og1_17 := Lib.hid (Og1_16.out.kept hg (apart_of APg1_g0.out))
  have Og0_17 := Lib.hid ho
  clear ho hg
  go_wp2_with fail
  refine (markIntS_own _ Ag1 N1 cg1 (1 + N0) _ _ (by unfold maxLen; omega) Og1_17.out (ints_are _)).mono ?_
  rintro e w18 ⟨rfl, ho, hg⟩
  have BW18 := Lib.hid (below_marked BW17.out Og1_17.out hg (by omega) (by omega))
  have sz18 : w17.heap.size ≤ w18.heap.size := hg.size
  have Ow0_18 := Lib.hid (Ow0_17.out.kept hg (own_apart Ow0_17.out Uw0.out Og1_17.out Ug1.out (.inl (by omega))))
  have Ow1_18 := Lib.hid (Ow1_17.out.kept hg (own_apart Ow1_17.out Uw1.out Og1_17.out Ug1.out (.inl (by omega))))
  have Og0_18 := Lib.hid (Og0_17.out.kept hg (apart_of APg0_g1.out))
  have Og1_18 := Lib.hid ho
  clear ho hg
  go_wp2_with fail
  refine (heldIntS_same Ag0 N0 cg0 (1) _ (by unfold maxLen; omega) (Reads.of_own Og0_18.out)).mono ?_
  rintro e w19 ⟨rfl, hb⟩
  have BW19 := Lib.hid (BW18.out.trans (hb.mono BW18.out.size))
  have sz19 : w18.heap.size ≤ w19.heap.size := hb.size
  have Ow0_19 := Lib.hid (own_below Ow0_18.out hb)
  have Ow1_19 := Lib.hid (own_below Ow1_18.out hb)
  have Og0_19 := Lib.hid (own_below Og0_18.out hb)
  have Og1_19 := Lib.hid (own_below Og1_18.out hb)
  clear hb
  go_wp2_with fail
  refine (heldIntS_same Ag1 N1 cg1 (1 + N0) _ (by unfold maxLen; omega) (Reads.of_own Og1_19.out)).mono ?_
  rintro e w20 ⟨rfl, hb⟩
  have BW20 := Lib.hid (BW19.out.trans (hb.mono BW19.out.size))
  have sz20 : w19.heap.size ≤ w20.heap.size := hb.size
  have Ow0_20 := Lib.hid (own_below Ow0_19.out hb)
  have Ow1_20 := Lib.hid (own_below Ow1_19.out hb)
  have Og0_20 := Lib.hid (own_below Og0_19.out hb)
  have Og1_20 := Lib.hid (own_below Og1_19.out hb)
  clear hb
  go_wp2_with fail
  refine (toIntS_any a0 len0 cap0 z0 _ Inz0.out.1 Inz0.out.2.1 (Inz0.out.2.2.1.below BW20.out)).mono ?_
  rintro e w21 ⟨v, rfl, ho, hb⟩
  have BW21 := Lib.hid (BW20.out.trans (hb.mono BW20.out.size))
  have sz21 : w20.heap.size ≤ w21.heap.size := hb.size
  have Ow0_21 := Lib.hid (own_below Ow0_20.out hb)
  have Ow1_21 := Lib.hid (own_below Ow1_20.out hb)
  have Og0_21 := Lib.hid (own_below Og0_20.out hb)
  have Og1_21 := Lib.hid (own_below Og1_20.out hb)
  obtain ⟨At7, ct7, rfl⟩ := own_slice ho
  have Ut7 := Lib.hid (fun k (hk : (Value.slice At7 len0 ct7).ownBlock = some k) => (ho.lt k hk).2)
  have Ot7_21 := Lib.hid ho
  clear ho
  clear hb
  go_wp2_with fail
  refine (toIntS_any a1 len1 cap1 z1 _ Inz1.out.1 Inz1.out.2.1 (Inz1.out.2.2.1.below BW21.out)).mono ?_
  rintro e w22 ⟨v, rfl, ho, hb⟩
  have BW22 := Lib.hid (BW21.out.trans (hb.mono BW21.out.size))
  have sz22 : w21.heap.size ≤ w22.heap.size := hb.size
  have Ow0_22 := Lib.hid (own_below Ow0_21.out hb)
  have Ow1_22 := Lib.hid (own_below Ow1_21.out hb)
  have Og0_22 := Lib.hid (own_below Og0_21.out hb)
  have Og1_22 := Lib.hid (own_below Og1_21.out hb)
  have Ot7_22 := Lib.hid (own_below Ot7_21.out hb)
  obtain ⟨At8, ct8, rfl⟩ := own_slice ho
  have Ut8 := Lib.hid (fun k (hk : (Value.slice At8 len1 ct8).ownBlock = some k) => (ho.lt k hk).2)
  have Ot8_22 := Lib.hid ho
  clear ho
  clear hb
  go_wp2_with fail
  refine (impl_natDiv At7 len0 ct7 z0 At8 len1 ct8 z1 _ ⟨Inz0.out.1, Inz0.out.2.1, Reads.of_own Ot7_22.out, Inz0.out.2.2.2⟩ ⟨Inz1.out.1, Inz1.out.2.1, Reads.of_own Ot8_22.out, Inz1.out.2.2.2⟩).mono ?_
  rintro e w23 ⟨r3_0, v3_0, r3_1, v3_1, rfl, his, ho0, ho1, hap10, hb⟩
  have BW23 := Lib.hid (BW22.out.trans (hb.mono BW22.out.size))
  have sz23 : w22.heap.size ≤ w23.heap.size := hb.size
  have Ow0_23 := Lib.hid (own_below Ow0_22.out hb)
  have Ow1_23 := Lib.hid (own_below Ow1_22.out hb)
  have Og0_23 := Lib.hid (own_below Og0_22.out hb)
  have Og1_23 := Lib.hid (own_below Og1_22.out hb)
  have Ot7_23 := Lib.hid (own_below Ot7_22.out hb)
  have Ot8_23 := Lib.hid (own_below Ot8_22.out hb)
  clear hb
  obtain ⟨rfl, rfl⟩ := natDiv_unique IS.out his
  clear his
  have ho0 := ho0.2
  rw [HN0.out] at ho0
  have ho1 := ho1.2
  rw [HN1.out] at ho1
  obtain ⟨Ah0, ch0, rfl⟩ := own_slice ho0
  have Uh0 := Lib.hid (fun k (hk : (Value.slice Ah0 N0 ch0).ownBlock = some k) => (ho0.lt k hk).2)
  have Oh0_23 := Lib.hid ho0
  clear ho0
  obtain ⟨Ah1, ch1, rfl⟩ := own_slice ho1
  have Uh1 := Lib.hid (fun k (hk : (Value.slice Ah1 N1 ch1).ownBlock = some k) => (ho1.lt k hk).2)
  have Oh1_23 := Lib.hid ho1
  clear ho1
  have APh1_h0 := Lib.hid hap10
  have APh0_h1 := Lib.hid hap10.symm
  clear hap10
  clear Ot7_23 Ut7
  clear Ot8_23 Ut8
  go_wp2_with fail
  refine (eqIntS_same Ah0 Aw0 N0 ch0 cw0 r1_0 _ HN0.out (by unfold maxLen; omega) (Reads.of_own Oh0_23.out) (Reads.of_own Ow0_23.out)).mono ?_
  rintro e w24 ⟨rfl, hb⟩
  have BW24 := Lib.hid (BW23.out.trans (hb.mono BW23.out.size))
  have sz24 : w23.heap.size ≤ w24.heap.size := hb.size
  have Ow0_24 := Lib.hid (own_below Ow0_23.out hb)
  have Ow1_24 := Lib.hid (own_below Ow1_23.out hb)
  have Og0_24 := Lib.hid (own_below Og0_23.out hb)
  have Og1_24 := Lib.hid (own_below Og1_23.out hb)
  have Oh0_24 := Lib.hid (own_below Oh0_23.out hb)
  have Oh1_24 := Lib.hid (own_below Oh1_23.out hb)
  clear hb
  clear Ow0_24 Uw0
  clear Oh0_24 Uh0
  go_wp2_with fail
  refine (eqIntS_same Ah1 Aw1 N1 ch1 cw1 r1_1 _ HN1.out (by unfold maxLen; omega) (Reads.of_own Oh1_24.out) (Reads.of_own Ow1_24.out)).mono ?_
  rintro e w25 ⟨rfl, hb⟩
  have BW25 := Lib.hid (BW24.out.trans (hb.mono BW24.out.size))
  have sz25 : w24.heap.size ≤ w25.heap.size := hb.size
  have Ow1_25 := Lib.hid (own_below Ow1_24.out hb)
  have Og0_25 := Lib.hid (own_below Og0_24.out hb)
  have Og1_25 := Lib.hid (own_below Og1_24.out hb)
  have Oh1_25 := Lib.hid (own_below Oh1_24.out hb)
  clear hb
  clear Ow1_25 Uw1
  clear Oh1_25 Uh1
  go_wp2_with fail
  refine (heldIntS_same Ag0 N0 cg0 (1) _ (by unfold maxLen; omega) (Reads.of_own Og0_25.out)).mono ?_
  rintro e w26 ⟨rfl, hb⟩
  have BW26 := Lib.hid (BW25.out.trans (hb.mono BW25.out.size))
  have sz26 : w25.heap.size ≤ w26.heap.size := hb.size
  have Og0_26 := Lib.hid (own_below Og0_25.out hb)
  have Og1_26 := Lib.hid (own_below Og1_25.out hb)
  clear hb
  clear Og0_26 Ug0
  go_wp2_with fail
  refine (heldIntS_same Ag1 N1 cg1 (1 + N0) _ (by unfold maxLen; omega) (Reads.of_own Og1_26.out)).mono ?_
  rintro e w27 ⟨rfl, hb⟩
  have BW27 := Lib.hid (BW26.out.trans (hb.mono BW26.out.size))
  have sz27 : w26.heap.size ≤ w27.heap.size := hb.size
  have Og1_27 := Lib.hid (own_below Og1_26.out hb)
  clear hb
  clear Og1_27 Ug1
  go_wp2_with fail
  go_ret
  exact ⟨rfl, BW27.out⟩
-- THE FRAME, by wip/tools/frame.py
theorem own : ownKnob Try.prog.godebug = none := by kernel_rfl
theorem laidOut : laidOutB Try.prog = true := by kernel_rfl

set_option maxRecDepth 100000 in
theorem lifted (os : Os) (started : os.Started) (H : Type) (enc : TypeId × Value → H) :
    ReturnsInHanded {} Try.checked os 10 .any (Rows.fnExactNatDivSpec.pre6 enc Try.prog Try.f10 Rows.fnExactNatDivRow.domain false) (Rows.fnExactNatDivSpec.post enc Try.prog Try.f10 false true false false) := by
  refine returnsInHanded_of_change (C := Try.checked) own started (by kernel_rfl) Try.func10
    (ChangeSpec.witness6 (enc := enc) (C := Try.checked) false ⟨#[], #[.slice none 0 0, .slice none 0 0], []⟩ 8 (by kernel_rfl) (by kernel_rfl) (by kernel_rfl) (by kernel_rfl)) ?_
  intro W base args ds gs before hval0 hW _ _
  have hval : ∀ (j : Nat) t v, Try.f10.params[j]? = some t → args[j]? = some v → Value.okWide Try.prog W .any base t v := hval0
  have hW' := hW
  obtain ⟨p, q, hA0, hV, rfl, _, _⟩ := hW
  have hA : DataW.TrodAll enc Try.prog W 0 (fun _ => true) true Try.f10.params.toList args.toList ds p := hA0
  rw [Try.params10] at hA hval
  obtain ⟨v0, vs0, d0, ds0, p0, q0, hargs, rfl, rfl, h0, r0⟩ := trodAll_cons hA
  obtain ⟨v1, vs1, d1, ds1, p1, q1, rfl, rfl, rfl, h1, r1⟩ := trodAll_cons r0
  obtain ⟨rfl, rfl, rfl⟩ := trodAll_nil r1
  obtain rfl : args = #[v0, v1] := by cases args; simp_all
  obtain ⟨rfl, rfl⟩ := trodVars_none hV
  obtain ⟨a0, len0, cap0, rfl⟩ := okWide_slice Try.underlying22 (hval 0 22 v0 rfl rfl)
  have k0 := h0
  have lt0 : ∀ x ∈ p0, x.block < W.heap.size := by obtain ⟨m, hm⟩ := k0; exact DataW.trod_lt m _ _ _ hm
  obtain ⟨z0, w0⟩ := isInts_of Try.underlying22 Try.underlying3 (by kernel_rfl) h0
  obtain ⟨a1, len1, cap1, rfl⟩ := okWide_slice Try.underlying22 (hval 1 22 v1 rfl rfl)
  have k1 := h1
  have lt1 : ∀ x ∈ p1, x.block < W.heap.size := by obtain ⟨m, hm⟩ := k1; exact DataW.trod_lt m _ _ _ hm
  obtain ⟨z1, w1⟩ := isInts_of Try.underlying22 Try.underlying3 (by kernel_rfl) h1
  clear hA0 hval0
  refine (walk (w := W) a0 len0 cap0 z0 w0 a1 len1 cap1 z1 w1).mono fun e W' ⟨he, bel⟩ => ?_
  subst he
  exact ⟨_, rfl, _, _, _, [], _, [], hW', trodAll_mk1 (shut_bool Try.underlying4 _), (trodAll_cons_mk (Below.trod laidOut (by kernel_rfl) (of_decide_eq_true (by kernel_rfl)) k0 bel lt0) (trodAll_cons_mk (Below.trod laidOut (by kernel_rfl) (of_decide_eq_true (by kernel_rfl)) k1 bel lt1) trodAll_mk0)), rfl, bel.frame _, fun h => by cases h⟩

theorem over : Rows.fnExactNatDivRow.holds Try.pinned (OpenSpec.ofChange Rows.fnExactNatDivSpec) :=
  OpenClaim.holds_of_wide 10 Try.f10 rfl rfl rfl rfl rfl rfl rfl ⟨rfl, rfl, rfl, rfl, rfl⟩ rfl rfl rfl rfl rfl (by kernel_rfl) Try.func10 (by kernel_rfl)
    (of_decide_eq_true (by kernel_rfl)) (by unfold Func.isWrapper; rw [if_neg (of_decide_eq_false (by kernel_rfl))]; exact ⟨rfl, rfl⟩)
    (fun os started H enc _ => lifted os started H enc)

theorem proved : Rows.FnExactNatDivSaid := over
end Go.Proofs.Yteghhaefpbkjnaa.fnExactNatDiv
