/- The walk of the law: for all arguments the law FnExactMatrixOf returns true: the program's MatrixOf answers as the model's; no condition on them. -/
import Derived.Test.YtmclfoahfifmfaaGV
import Derived.Test.YtmclfoahfifmfaaMatMem
import Derived.Test.YtmclfoahfifmfaaMatS2
import Derived.Test.YtmclfoahfifmfaaMatI2
import Derived.ProofKit
import Derived.OpenShut
import Derived.ShutString
import Derived.Lib.SmallJoins
namespace Go.Proofs.Ytmclfoahfifmfaa.fnExactMatrixOf
set_option maxRecDepth 100000
open Go.ChangeShapes Go.WideShapes Go.ChangeAt Go.RowKit Go.Joins Go.Deep
open Go.ChangeMaps (open_string shut_string)

set_option maxRecDepth 100000 in
set_option maxHeartbeats 16000000 in
theorem walk {w : World} (a0 : Int) (ha0 : (Lit.int .i64 a0).wf = true) (a1 : Int) (ha1 : (Lit.int .i64 a1).wf = true) (a2 : Option Addr) (len2 cap2 : Nat) (z2 : List Int) (hz2 : IsInts w a2 len2 z2) :
    Calls Try.prog 5 #[.int .i64 a0, .int .i64 a1, .slice a2 len2 cap2] w fun e w' => e = .returned (.bool true) ∧ Below w.heap.size w w' := by
  have Ba0 := bounds_i64 ha0
  clear ha0
  have Ba1 := bounds_i64 ha1
  clear ha1
  have hmz2 : len2 ≤ maxLen := hz2.2.1
  have Hz2 := Lib.hid hz2
  clear hz2
  have BW0 : Hid (Below w.heap.size w w) := Below.refl _ _
  by_cases biga2 : 1048576 < (len2 : Int)
  · go_enter Try.func5, Try.ntmps5
    go_wp2_with fail
    go_ret
    exact ⟨rfl, BW0.out⟩
  have Inz2 : Hid (InI w a2 len2 z2) := ⟨Hz2.out.1, by omega, Hz2.out.2.2.1, Hz2.out.2.2.2⟩
  go_enter Try.func5, Try.ntmps5
  go_wp2_with fail
  refine (toIntS_any a2 len2 cap2 z2 _ Inz2.out.len Inz2.out.le (Inz2.out.rd.below BW0.out)).mono ?_
  rintro e w1 ⟨v, rfl, ho, hb⟩
  have BW1 := Lib.hid (BW0.out.trans (hb.mono BW0.out.size))
  have sz1 : Hid (w.heap.size ≤ w1.heap.size) := hb.size
  obtain ⟨At1, ct1, rfl⟩ := own_slice ho
  have Ut1 := Lib.hid (show ∀ k, blk _ k → _ ∧ _ from fun k hk => ho.lt k hk)
  have Rt1_1 := Lib.hid (own_holds ho)
  clear ho hb
  go_wp2_with fail
  refine (spec_matrixOf a0 a1 At1 len2 ct1 z2 _ Ba0 Ba1 (Inz2.out.own (inow Rt1_1))).mono ?_
  rintro e w2 ⟨p1_0, q1_0, r1_0, v0, rfl, his, h0, hb⟩
  have BW2 := Lib.hid (BW1.out.trans (hb.mono BW1.out.size))
  have sz2 : Hid (w1.heap.size ≤ w2.heap.size) := hb.size
  have Rt1_2 := Lib.hid (Rt1_1.out.below hb)
  have IS := Lib.hid his
  clear his
  obtain ⟨hl, hf, Lw0, ho, hh⟩ := h0
  obtain ⟨N0, hN⟩ : ∃ N, N = r1_0.length := ⟨_, rfl⟩
  rw [← hN] at hl ho
  have HN0 : Hid (r1_0.length = N0) := hN.symm
  have hl0 := hl
  have Ftr1_0 := Lib.hid hf
  clear hN hl hf
  obtain ⟨Aw0, cw0, rfl⟩ := ho.slice
  have Uw0 := Lib.hid ho.lt
  have Rw0_2 := Lib.hid ho.holds
  have HHw0 := Lib.hid hh
  obtain ⟨mw0, hmw0⟩ : ∃ m, m = mtot Lw0 := ⟨_, rfl⟩
  have Mw0 : Hid (mw0 = N0 + tot r1_0) := Lib.hid (by have := mtot_has hh; have := HN0.out; omega)
  have Qw0 : Hid (mtot Lw0 = mw0) := hmw0.symm
  clear hmw0
  clear ho hh
  clear hb
  clear Rt1_2 Ut1
  have BW3 := Lib.hid (BW2.out.alloc BW2.out.size (.cells #[.int .i64 p1_0, .int .i64 q1_0, .slice Aw0 N0 cw0] 25))
  have sz3 : Hid (w2.heap.size + 1 ≤ (w2.alloc (.cells #[.int .i64 p1_0, .int .i64 q1_0, .slice Aw0 N0 cw0] 25)).heap.size) := Lib.hid (by simp)
  have Rw0_3 := Lib.hid (Rw0_2.out.alloc (.cells #[.int .i64 p1_0, .int .i64 q1_0, .slice Aw0 N0 cw0] 25))
  have Xw0_3 := Lib.hid (Box.new w2 25 #[.int .i64 p1_0, .int .i64 q1_0, .slice Aw0 N0 cw0])
  go_wp2_with fail
  refine (toIntS_any a2 len2 cap2 z2 _ Inz2.out.len Inz2.out.le (Inz2.out.rd.below BW3.out)).mono ?_
  rintro e w3 ⟨v, rfl, ho, hb⟩
  have BW4 := Lib.hid (BW3.out.trans (hb.mono BW3.out.size))
  have sz4 : Hid ((w2.alloc (.cells #[.int .i64 p1_0, .int .i64 q1_0, .slice Aw0 N0 cw0] 25)).heap.size ≤ w3.heap.size) := hb.size
  have Rw0_4 := Lib.hid (Rw0_3.out.below hb)
  have Xw0_4 := Lib.hid (Xw0_3.out.below hb Xw0_3.out.lt)
  obtain ⟨Ax2, cx2, rfl⟩ := own_slice ho
  have Ux2 := Lib.hid (show ∀ k, blk _ k → _ ∧ _ from fun k hk => ho.lt k hk)
  have Rx2_4 := Lib.hid (own_holds ho)
  clear ho hb
  go_wp2_with fail
  refine (impl_matrixOf a0 a1 Ax2 len2 cx2 z2 _ Ba0 Ba1 (Inz2.out.own (inow Rx2_4))).mono ?_
  rintro e w4 ⟨p2_0, q2_0, r2_0, v0, rfl, his, h0, hb⟩
  have BW5 := Lib.hid (BW4.out.trans (hb.mono BW4.out.size))
  have sz5 : Hid (w3.heap.size ≤ w4.heap.size) := hb.size
  have Rw0_5 := Lib.hid (Rw0_4.out.below hb)
  have Rx2_5 := Lib.hid (Rx2_4.out.below hb)
  have Xw0_5 := Lib.hid (Xw0_4.out.below hb Xw0_4.out.lt)
  obtain ⟨rfl, rfl, rfl⟩ := matrixOf_unique IS.out his
  clear his
  obtain ⟨_, _, Lg0, ho, hh⟩ := h0
  rw [HN0.out] at ho
  obtain ⟨Ag0, cg0, rfl⟩ := ho.slice
  have Ug0 := Lib.hid ho.lt
  have Rg0_5 := Lib.hid ho.holds
  have HHg0 := Lib.hid hh
  obtain ⟨mg0, hmg0⟩ : ∃ m, m = mtot Lg0 := ⟨_, rfl⟩
  have Mg0 : Hid (mg0 = N0 + tot r1_0) := Lib.hid (by have := mtot_has hh; have := HN0.out; omega)
  have Qg0 : Hid (mtot Lg0 = mg0) := hmg0.symm
  clear hmg0
  clear ho hh
  clear hb
  have BW6 := Lib.hid (BW5.out.alloc BW5.out.size (.cells #[.int .i64 p1_0, .int .i64 q1_0, .slice Ag0 N0 cg0] 25))
  have sz6 : Hid (w4.heap.size + 1 ≤ (w4.alloc (.cells #[.int .i64 p1_0, .int .i64 q1_0, .slice Ag0 N0 cg0] 25)).heap.size) := Lib.hid (by simp)
  have Rw0_6 := Lib.hid (Rw0_5.out.alloc (.cells #[.int .i64 p1_0, .int .i64 q1_0, .slice Ag0 N0 cg0] 25))
  have Rx2_6 := Lib.hid (Rx2_5.out.alloc (.cells #[.int .i64 p1_0, .int .i64 q1_0, .slice Ag0 N0 cg0] 25))
  have Rg0_6 := Lib.hid (Rg0_5.out.alloc (.cells #[.int .i64 p1_0, .int .i64 q1_0, .slice Ag0 N0 cg0] 25))
  have Xw0_6 := Lib.hid (Xw0_5.out.alloc (.cells #[.int .i64 p1_0, .int .i64 q1_0, .slice Ag0 N0 cg0] 25))
  have Xg0_6 := Lib.hid (Box.new w4 25 #[.int .i64 p1_0, .int .i64 q1_0, .slice Ag0 N0 cg0])
  have ew00a : w4.cell? ⟨w2.heap.size, 0, none⟩ = some (.int .i64 p1_0) := Xw0_5.out.cell 0
  have ew01a : w4.cell? ⟨w2.heap.size, 1, none⟩ = some (.int .i64 q1_0) := Xw0_5.out.cell 1
  have ew02a : w4.cell? ⟨w2.heap.size, 2, none⟩ = some (.slice Aw0 N0 cw0) := Xw0_5.out.cell 2
  have ew00b : (w4.alloc (.cells #[.int .i64 p1_0, .int .i64 q1_0, .slice Ag0 N0 cg0] 25)).cell? ⟨w2.heap.size, 0, none⟩ = some (.int .i64 p1_0) := Xw0_6.out.cell 0
  have ew01b : (w4.alloc (.cells #[.int .i64 p1_0, .int .i64 q1_0, .slice Ag0 N0 cg0] 25)).cell? ⟨w2.heap.size, 1, none⟩ = some (.int .i64 q1_0) := Xw0_6.out.cell 1
  have ew02b : (w4.alloc (.cells #[.int .i64 p1_0, .int .i64 q1_0, .slice Ag0 N0 cg0] 25)).cell? ⟨w2.heap.size, 2, none⟩ = some (.slice Aw0 N0 cw0) := Xw0_6.out.cell 2
  have new00 : w4.heap.size ≠ w2.heap.size := (by have := Xw0_5.out.lt; omega)
  go_wp2_with fail
  clear ew00a ew01a ew02a ew00b ew01b ew02b new00
  refine (eqMatrix_same p1_0 q1_0 Ag0 Aw0 N0 cg0 cw0 r1_0 _ (vin Rg0_6 HHg0 (by omega) Ftr1_0) (vin Rw0_6 HHw0 (by omega) Ftr1_0)).mono ?_
  rintro e w5 ⟨rfl, hb⟩
  have BW7 := Lib.hid (BW6.out.trans (hb.mono BW6.out.size))
  have sz7 : Hid ((w4.alloc (.cells #[.int .i64 p1_0, .int .i64 q1_0, .slice Ag0 N0 cg0] 25)).heap.size ≤ w5.heap.size) := hb.size
  have Rw0_7 := Lib.hid (Rw0_6.out.below hb)
  have Rx2_7 := Lib.hid (Rx2_6.out.below hb)
  have Rg0_7 := Lib.hid (Rg0_6.out.below hb)
  have Xw0_7 := Lib.hid (Xw0_6.out.below hb Xw0_6.out.lt)
  have Xg0_7 := Lib.hid (Xg0_6.out.below hb Xg0_6.out.lt)
  clear hb
  go_wp2_with fail
  refine (toIntS_any a2 len2 cap2 z2 _ Inz2.out.len Inz2.out.le (Inz2.out.rd.below BW7.out)).mono ?_
  rintro e w6 ⟨v, rfl, ho, hb⟩
  have BW8 := Lib.hid (BW7.out.trans (hb.mono BW7.out.size))
  have sz8 : Hid (w5.heap.size ≤ w6.heap.size) := hb.size
  have Rw0_8 := Lib.hid (Rw0_7.out.below hb)
  have Rx2_8 := Lib.hid (Rx2_7.out.below hb)
  have Rg0_8 := Lib.hid (Rg0_7.out.below hb)
  have Xw0_8 := Lib.hid (Xw0_7.out.below hb Xw0_7.out.lt)
  have Xg0_8 := Lib.hid (Xg0_7.out.below hb Xg0_7.out.lt)
  obtain ⟨At2, ct2, rfl⟩ := own_slice ho
  have Ut2 := Lib.hid (show ∀ k, blk _ k → _ ∧ _ from fun k hk => ho.lt k hk)
  have Rt2_8 := Lib.hid (own_holds ho)
  clear ho hb
  go_wp2_with fail
  refine (eqIntS_same Ax2 At2 len2 cx2 ct2 z2 _ Inz2.out.len (by unfold maxLen; omega) (Reads.of_own (inow Rx2_8)) (Reads.of_own (inow Rt2_8))).mono ?_
  rintro e w7 ⟨rfl, hb⟩
  have BW9 := Lib.hid (BW8.out.trans (hb.mono BW8.out.size))
  have sz9 : Hid (w6.heap.size ≤ w7.heap.size) := hb.size
  have Rw0_9 := Lib.hid (Rw0_8.out.below hb)
  have Rx2_9 := Lib.hid (Rx2_8.out.below hb)
  have Rg0_9 := Lib.hid (Rg0_8.out.below hb)
  have Rt2_9 := Lib.hid (Rt2_8.out.below hb)
  have Xw0_9 := Lib.hid (Xw0_8.out.below hb Xw0_8.out.lt)
  have Xg0_9 := Lib.hid (Xg0_8.out.below hb Xg0_8.out.lt)
  clear hb
  clear Rt2_9 Ut2
  go_wp2_with fail
  refine (markIntS_own _ Ax2 len2 cx2 (1) _ _ (by unfold maxLen; omega) (inow Rx2_9) (ints_are _)).mono ?_
  rintro e w8 ⟨rfl, ho, hg⟩
  have hW := Wrote.of_grown hg
  have BW10 := Lib.hid (Wrote.below BW9.out hW (fun k hk => Nat.le_trans (Nat.le_trans sz1.out (Nat.le_trans sz2.out (Nat.le_of_succ_le sz3.out))) (Ux2.out k hk).1) (Nat.le_trans sz1.out (Nat.le_trans sz2.out (Nat.le_trans (Nat.le_of_succ_le sz3.out) (Nat.le_trans sz4.out (Nat.le_trans sz5.out (Nat.le_trans (Nat.le_of_succ_le sz6.out) (Nat.le_trans sz7.out (Nat.le_trans sz8.out sz9.out)))))))))
  have sz10 : Hid (w7.heap.size ≤ w8.heap.size) := hW.size
  have Rw0_10 := Lib.hid (Rw0_9.out.wrote hW (two_none Uw0 Ux2 (.inl (Nat.le_of_succ_le sz3.out))))
  have Rg0_10 := Lib.hid (Rg0_9.out.wrote hW (two_none Ug0 Ux2 (.inr (Nat.le_refl _))))
  have Xw0_10 := Lib.hid (Xw0_9.out.wrote hW Ux2 (.inl (Nat.lt_of_lt_of_le (Nat.lt_of_succ_le sz3.out) (Nat.le_refl _))))
  have Xg0_10 := Lib.hid (Xg0_9.out.wrote hW Ux2 (.inr sz5.out))
  have Rx2_10 := Lib.hid (own_holds ho)
  clear hg
  clear ho hW
  clear Rx2_10 Ux2
  have eg00a : w8.cell? ⟨w4.heap.size, 0, none⟩ = some (.int .i64 p1_0) := Xg0_10.out.cell 0
  have eg01a : w8.cell? ⟨w4.heap.size, 1, none⟩ = some (.int .i64 q1_0) := Xg0_10.out.cell 1
  have eg02a : w8.cell? ⟨w4.heap.size, 2, none⟩ = some (.slice Ag0 N0 cg0) := Xg0_10.out.cell 2
  have ew00a : w8.cell? ⟨w2.heap.size, 0, none⟩ = some (.int .i64 p1_0) := Xw0_10.out.cell 0
  have ew01a : w8.cell? ⟨w2.heap.size, 1, none⟩ = some (.int .i64 q1_0) := Xw0_10.out.cell 1
  have ew02a : w8.cell? ⟨w2.heap.size, 2, none⟩ = some (.slice Aw0 N0 cw0) := Xw0_10.out.cell 2
  go_wp2_with fail
  clear eg00a eg01a eg02a ew00a ew01a ew02a
  refine (eqMatrix_same p1_0 q1_0 Ag0 Aw0 N0 cg0 cw0 r1_0 _ (vin Rg0_10 HHg0 (by omega) Ftr1_0) (vin Rw0_10 HHw0 (by omega) Ftr1_0)).mono ?_
  rintro e w9 ⟨rfl, hb⟩
  have BW11 := Lib.hid (BW10.out.trans (hb.mono BW10.out.size))
  have sz11 : Hid (w8.heap.size ≤ w9.heap.size) := hb.size
  have Rw0_11 := Lib.hid (Rw0_10.out.below hb)
  have Rg0_11 := Lib.hid (Rg0_10.out.below hb)
  have Xw0_11 := Lib.hid (Xw0_10.out.below hb Xw0_10.out.lt)
  have Xg0_11 := Lib.hid (Xg0_10.out.below hb Xg0_10.out.lt)
  clear hb
  have eg00a : w9.cell? ⟨w4.heap.size, 0, none⟩ = some (.int .i64 p1_0) := Xg0_11.out.cell 0
  have eg01a : w9.cell? ⟨w4.heap.size, 1, none⟩ = some (.int .i64 q1_0) := Xg0_11.out.cell 1
  have eg02a : w9.cell? ⟨w4.heap.size, 2, none⟩ = some (.slice Ag0 N0 cg0) := Xg0_11.out.cell 2
  go_wp2_with fail
  clear eg00a eg01a eg02a
  refine (markMatrix_m _ p1_0 q1_0 Ag0 N0 cg0 (1) mg0 Lg0 r1_0 _ Qg0 (by have := Mg0.out; unfold maxLen; omega) (vnow Rg0_11) HHg0.out).mono ?_
  rintro e w10 ⟨rfl, ho, hW⟩
  have BW12 := Lib.hid (Wrote.below BW11.out hW (fun k hk => Nat.le_trans (Nat.le_trans sz1.out (Nat.le_trans sz2.out (Nat.le_trans (Nat.le_of_succ_le sz3.out) sz4.out))) (Ug0.out k hk).1) (Nat.le_trans sz1.out (Nat.le_trans sz2.out (Nat.le_trans (Nat.le_of_succ_le sz3.out) (Nat.le_trans sz4.out (Nat.le_trans sz5.out (Nat.le_trans (Nat.le_of_succ_le sz6.out) (Nat.le_trans sz7.out (Nat.le_trans sz8.out (Nat.le_trans sz9.out (Nat.le_trans sz10.out sz11.out)))))))))))
  have sz12 : Hid (w9.heap.size ≤ w10.heap.size) := hW.size
  have Rw0_12 := Lib.hid (Rw0_11.out.wrote hW (two_none Uw0 Ug0 (.inl (Nat.le_trans (Nat.le_of_succ_le sz3.out) sz4.out))))
  have Xw0_12 := Lib.hid (Xw0_11.out.wroteV Rg0_11.out.now hW)
  have Xg0_12 := Lib.hid (Xg0_11.out.wroteV Rg0_11.out.now hW)
  have Rg0_12 := Lib.hid ho.holds_marked
  clear ho hW
  have eg00a : w10.cell? ⟨w4.heap.size, 0, none⟩ = some (.int .i64 p1_0) := Xg0_12.out.cell 0
  have eg01a : w10.cell? ⟨w4.heap.size, 1, none⟩ = some (.int .i64 q1_0) := Xg0_12.out.cell 1
  have eg02a : w10.cell? ⟨w4.heap.size, 2, none⟩ = some (.slice Ag0 N0 cg0) := Xg0_12.out.cell 2
  go_wp2_with fail
  clear eg00a eg01a eg02a
  refine (heldMatrix_m _ p1_0 q1_0 Ag0 N0 cg0 (1) mg0 Lg0 _ Qg0 (by have := Mg0.out; unfold maxLen; omega) (vnow Rg0_12)).mono ?_
  rintro e w11 ⟨rfl, hb⟩
  have BW13 := Lib.hid (BW12.out.trans (hb.mono BW12.out.size))
  have sz13 : Hid (w10.heap.size ≤ w11.heap.size) := hb.size
  have Rw0_13 := Lib.hid (Rw0_12.out.below hb)
  have Rg0_13 := Lib.hid (Rg0_12.out.below hb)
  have Xw0_13 := Lib.hid (Xw0_12.out.below hb Xw0_12.out.lt)
  have Xg0_13 := Lib.hid (Xg0_12.out.below hb Xg0_12.out.lt)
  clear hb
  go_wp2_with fail
  refine (toIntS_any a2 len2 cap2 z2 _ Inz2.out.len Inz2.out.le (Inz2.out.rd.below BW13.out)).mono ?_
  rintro e w12 ⟨v, rfl, ho, hb⟩
  have BW14 := Lib.hid (BW13.out.trans (hb.mono BW13.out.size))
  have sz14 : Hid (w11.heap.size ≤ w12.heap.size) := hb.size
  have Rw0_14 := Lib.hid (Rw0_13.out.below hb)
  have Rg0_14 := Lib.hid (Rg0_13.out.below hb)
  have Xw0_14 := Lib.hid (Xw0_13.out.below hb Xw0_13.out.lt)
  have Xg0_14 := Lib.hid (Xg0_13.out.below hb Xg0_13.out.lt)
  obtain ⟨At3, ct3, rfl⟩ := own_slice ho
  have Ut3 := Lib.hid (show ∀ k, blk _ k → _ ∧ _ from fun k hk => ho.lt k hk)
  have Rt3_14 := Lib.hid (own_holds ho)
  clear ho hb
  go_wp2_with fail
  refine (impl_matrixOf a0 a1 At3 len2 ct3 z2 _ Ba0 Ba1 (Inz2.out.own (inow Rt3_14))).mono ?_
  rintro e w13 ⟨p3_0, q3_0, r3_0, v0, rfl, his, h0, hb⟩
  have BW15 := Lib.hid (BW14.out.trans (hb.mono BW14.out.size))
  have sz15 : Hid (w12.heap.size ≤ w13.heap.size) := hb.size
  have Rw0_15 := Lib.hid (Rw0_14.out.below hb)
  have Rg0_15 := Lib.hid (Rg0_14.out.below hb)
  have Rt3_15 := Lib.hid (Rt3_14.out.below hb)
  have Xw0_15 := Lib.hid (Xw0_14.out.below hb Xw0_14.out.lt)
  have Xg0_15 := Lib.hid (Xg0_14.out.below hb Xg0_14.out.lt)
  obtain ⟨rfl, rfl, rfl⟩ := matrixOf_unique IS.out his
  clear his
  obtain ⟨_, _, Lh0, ho, hh⟩ := h0
  rw [HN0.out] at ho
  obtain ⟨Ah0, ch0, rfl⟩ := ho.slice
  have Uh0 := Lib.hid ho.lt
  have Rh0_15 := Lib.hid ho.holds
  have HHh0 := Lib.hid hh
  obtain ⟨mh0, hmh0⟩ : ∃ m, m = mtot Lh0 := ⟨_, rfl⟩
  have Mh0 : Hid (mh0 = N0 + tot r1_0) := Lib.hid (by have := mtot_has hh; have := HN0.out; omega)
  have Qh0 : Hid (mtot Lh0 = mh0) := hmh0.symm
  clear hmh0
  clear ho hh
  clear hb
  clear Rt3_15 Ut3
  have BW16 := Lib.hid (BW15.out.alloc BW15.out.size (.cells #[.int .i64 p1_0, .int .i64 q1_0, .slice Ah0 N0 ch0] 25))
  have sz16 : Hid (w13.heap.size + 1 ≤ (w13.alloc (.cells #[.int .i64 p1_0, .int .i64 q1_0, .slice Ah0 N0 ch0] 25)).heap.size) := Lib.hid (by simp)
  have Rw0_16 := Lib.hid (Rw0_15.out.alloc (.cells #[.int .i64 p1_0, .int .i64 q1_0, .slice Ah0 N0 ch0] 25))
  have Rg0_16 := Lib.hid (Rg0_15.out.alloc (.cells #[.int .i64 p1_0, .int .i64 q1_0, .slice Ah0 N0 ch0] 25))
  have Rh0_16 := Lib.hid (Rh0_15.out.alloc (.cells #[.int .i64 p1_0, .int .i64 q1_0, .slice Ah0 N0 ch0] 25))
  have Xw0_16 := Lib.hid (Xw0_15.out.alloc (.cells #[.int .i64 p1_0, .int .i64 q1_0, .slice Ah0 N0 ch0] 25))
  have Xg0_16 := Lib.hid (Xg0_15.out.alloc (.cells #[.int .i64 p1_0, .int .i64 q1_0, .slice Ah0 N0 ch0] 25))
  have Xh0_16 := Lib.hid (Box.new w13 25 #[.int .i64 p1_0, .int .i64 q1_0, .slice Ah0 N0 ch0])
  have ew00a : w13.cell? ⟨w2.heap.size, 0, none⟩ = some (.int .i64 p1_0) := Xw0_15.out.cell 0
  have ew01a : w13.cell? ⟨w2.heap.size, 1, none⟩ = some (.int .i64 q1_0) := Xw0_15.out.cell 1
  have ew02a : w13.cell? ⟨w2.heap.size, 2, none⟩ = some (.slice Aw0 N0 cw0) := Xw0_15.out.cell 2
  have ew00b : (w13.alloc (.cells #[.int .i64 p1_0, .int .i64 q1_0, .slice Ah0 N0 ch0] 25)).cell? ⟨w2.heap.size, 0, none⟩ = some (.int .i64 p1_0) := Xw0_16.out.cell 0
  have ew01b : (w13.alloc (.cells #[.int .i64 p1_0, .int .i64 q1_0, .slice Ah0 N0 ch0] 25)).cell? ⟨w2.heap.size, 1, none⟩ = some (.int .i64 q1_0) := Xw0_16.out.cell 1
  have ew02b : (w13.alloc (.cells #[.int .i64 p1_0, .int .i64 q1_0, .slice Ah0 N0 ch0] 25)).cell? ⟨w2.heap.size, 2, none⟩ = some (.slice Aw0 N0 cw0) := Xw0_16.out.cell 2
  have new00 : w13.heap.size ≠ w2.heap.size := (by have := Xw0_15.out.lt; omega)
  go_wp2_with fail
  clear ew00a ew01a ew02a ew00b ew01b ew02b new00
  refine (eqMatrix_same p1_0 q1_0 Ah0 Aw0 N0 ch0 cw0 r1_0 _ (vin Rh0_16 HHh0 (by omega) Ftr1_0) (vin Rw0_16 HHw0 (by omega) Ftr1_0)).mono ?_
  rintro e w14 ⟨rfl, hb⟩
  have BW17 := Lib.hid (BW16.out.trans (hb.mono BW16.out.size))
  have sz17 : Hid ((w13.alloc (.cells #[.int .i64 p1_0, .int .i64 q1_0, .slice Ah0 N0 ch0] 25)).heap.size ≤ w14.heap.size) := hb.size
  have Rw0_17 := Lib.hid (Rw0_16.out.below hb)
  have Rg0_17 := Lib.hid (Rg0_16.out.below hb)
  have Rh0_17 := Lib.hid (Rh0_16.out.below hb)
  have Xw0_17 := Lib.hid (Xw0_16.out.below hb Xw0_16.out.lt)
  have Xg0_17 := Lib.hid (Xg0_16.out.below hb Xg0_16.out.lt)
  have Xh0_17 := Lib.hid (Xh0_16.out.below hb Xh0_16.out.lt)
  clear hb
  clear Rw0_17 Uw0 Xw0_17
  clear Rh0_17 Uh0 Xh0_17
  have eg00a : w14.cell? ⟨w4.heap.size, 0, none⟩ = some (.int .i64 p1_0) := Xg0_17.out.cell 0
  have eg01a : w14.cell? ⟨w4.heap.size, 1, none⟩ = some (.int .i64 q1_0) := Xg0_17.out.cell 1
  have eg02a : w14.cell? ⟨w4.heap.size, 2, none⟩ = some (.slice Ag0 N0 cg0) := Xg0_17.out.cell 2
  go_wp2_with fail
  clear eg00a eg01a eg02a
  refine (heldMatrix_m _ p1_0 q1_0 Ag0 N0 cg0 (1) mg0 Lg0 _ Qg0 (by have := Mg0.out; unfold maxLen; omega) (vnow Rg0_17)).mono ?_
  rintro e w15 ⟨rfl, hb⟩
  have BW18 := Lib.hid (BW17.out.trans (hb.mono BW17.out.size))
  have sz18 : Hid (w14.heap.size ≤ w15.heap.size) := hb.size
  have Rg0_18 := Lib.hid (Rg0_17.out.below hb)
  have Xg0_18 := Lib.hid (Xg0_17.out.below hb Xg0_17.out.lt)
  clear hb
  clear Rg0_18 Ug0 Xg0_18
  go_wp2_with fail
  go_ret
  exact ⟨rfl, BW18.out⟩
end Go.Proofs.Ytmclfoahfifmfaa.fnExactMatrixOf
