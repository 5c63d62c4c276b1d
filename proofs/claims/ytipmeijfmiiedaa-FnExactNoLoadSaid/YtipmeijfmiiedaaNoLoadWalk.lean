/- The walk of the law: for all arguments the law FnExactNoLoad returns true: the program's NoLoad answers as the model's; no condition on them. -/
import Derived.Test.YtipmeijfmiiedaaStM6
import Derived.Test.YtipmeijfmiiedaaLdS
import Derived.ProofKit
import Derived.OpenShut
import Derived.ShutString
import Derived.Lib.SmallJoins
namespace Go.Proofs.Ytipmeijfmiiedaa.fnExactNoLoad
set_option maxRecDepth 100000
open Go.ChangeShapes Go.WideShapes Go.ChangeAt Go.RowKit Go.Joins Go.Deep
open Go.ChangeMaps (open_string shut_string)

set_option maxRecDepth 100000 in
set_option maxHeartbeats 16000000 in
theorem walk {w : World} (a0 : Option Addr) (len0 cap0 : Nat) (z0 : List JD) (hz0 : IsJ w a0 len0 z0) (b0 : Option Addr) (m0 d0 : Nat) (y0 : List MD) (hy0 : IsM w b0 m0 y0) :
    Calls Try.prog 5 #[.agg #[.slice a0 len0 cap0, .slice b0 m0 d0]] w fun e w' => e = .returned (.bool true) ∧ Below w.heap.size w w' := by
  have hmz0 : len0 ≤ maxLen := hz0.2.1
  have Hz0 := Lib.hid hz0
  clear hz0
  have hmy0 : m0 ≤ maxLen := hy0.2.1
  have Hy0 := Lib.hid hy0
  clear hy0
  have BW0 : Hid (Below w.heap.size w w) := Below.refl _ _
  have BW1 := Lib.hid (BW0.out.alloc BW0.out.size (.cells #[.slice a0 len0 cap0, .slice b0 m0 d0] 44))
  have sz1 : Hid (w.heap.size + 1 ≤ (w.alloc (.cells #[.slice a0 len0 cap0, .slice b0 m0 d0] 44)).heap.size) := Lib.hid (by simp)
  have XaS_1 := Lib.hid (Box.new w 44 #[.slice a0 len0 cap0, .slice b0 m0 d0])
  go_enter Try.func5, Try.ntmps5
  have eaS0a : (w.alloc (.cells #[.slice a0 len0 cap0, .slice b0 m0 d0] 44)).cell? ⟨w.heap.size, 0, none⟩ = some (.slice a0 len0 cap0) := XaS_1.out.cell 0
  have eaS1a : (w.alloc (.cells #[.slice a0 len0 cap0, .slice b0 m0 d0] 44)).cell? ⟨w.heap.size, 1, none⟩ = some (.slice b0 m0 d0) := XaS_1.out.cell 1
  go_wp2_with fail
  clear eaS0a eaS1a
  refine (szStructure_any a0 len0 cap0 z0 b0 m0 d0 (1048576 : Int) _ (Hz0.out.below BW1.out) hmy0 (by omega) (by omega)).mono ?_
  rintro e ws0 ⟨lf0, rfl, hr, hb⟩
  have BW2 := Lib.hid (BW1.out.trans (hb.mono BW1.out.size))
  have sz2 : Hid ((w.alloc (.cells #[.slice a0 len0 cap0, .slice b0 m0 d0] 44)).heap.size ≤ ws0.heap.size) := hb.size
  have XaS_2 := Lib.hid (XaS_1.out.below hb XaS_1.out.lt)
  clear hb
  rcases hr with rfl | ⟨h0, hr⟩
  · go_wp2_with fail
    go_ret
    exact ⟨rfl, BW2.out⟩
  have lb0 : 0 ≤ lf0 ∧ lf0 ≤ 1048576 := by omega
  have ls0 : lf0 + ((len0 : Int) + jtot z0 + m0) = (1048576 : Int) := by omega
  have HLS0 := Lib.hid ls0
  have lt0 : len0 + jtot z0 + m0 ≤ 1048576 := by omega
  clear ls0 hr
  have h00 := h0
  clear h0
  have Inz0 : Hid (InT w a0 len0 z0 b0 m0 y0) := ⟨Hz0.out.inJ (by omega), Hy0.out.inM (by omega)⟩
  have Ftz0 : Hid (TFit len0 z0 m0 y0) := ⟨Inz0.out.1.1, Inz0.out.2.1, Inz0.out.1.2.2.2, Inz0.out.2.2.2.2⟩
  have eaS0a : ws0.cell? ⟨w.heap.size, 0, none⟩ = some (.slice a0 len0 cap0) := XaS_2.out.cell 0
  have eaS1a : ws0.cell? ⟨w.heap.size, 1, none⟩ = some (.slice b0 m0 d0) := XaS_2.out.cell 1
  go_wp2_with fail
  clear eaS0a eaS1a
  refine (toStructure_any a0 len0 cap0 z0 b0 m0 d0 y0 _ (Inz0.out.below BW2.out)).mono ?_
  rintro e w1 ⟨At1, ct1, Bt1, dt1, rfl, ho, hb⟩
  have BW3 := Lib.hid (BW2.out.trans (hb.mono BW2.out.size))
  have sz3 : Hid (ws0.heap.size ≤ w1.heap.size) := hb.size
  have XaS_3 := Lib.hid (XaS_2.out.below hb XaS_2.out.lt)
  have Ut1 := Lib.hid ho.lt
  have Rt1_3 := Lib.hid ho.holds
  clear ho hb
  go_wp2_with fail
  refine (spec_noLoad At1 len0 ct1 z0 Bt1 m0 dt1 y0 _ (tin Rt1_3 Ftz0 (by omega) (by omega))).mono ?_
  rintro e w2 ⟨r1_0, v0, rfl, his, h0, hb⟩
  have BW4 := Lib.hid (BW3.out.trans (hb.mono BW3.out.size))
  have sz4 : Hid (w1.heap.size ≤ w2.heap.size) := hb.size
  have Rt1_4 := Lib.hid (Rt1_3.out.below hb)
  have XaS_4 := Lib.hid (XaS_3.out.below hb XaS_3.out.lt)
  have IS := Lib.hid his
  clear his
  obtain ⟨hl, ho⟩ := h0
  obtain ⟨N0, hN⟩ : ∃ N, N = r1_0.length := ⟨_, rfl⟩
  rw [← hN] at hl ho
  have HN0 : Hid (r1_0.length = N0) := hN.symm
  have hl0 := hl
  clear hN hl
  obtain ⟨Aw0, cw0, rfl⟩ := own_slice ho
  have Uw0 := Lib.hid (show ∀ k, blk _ k → _ ∧ _ from fun k hk => ho.lt k hk)
  have Rw0_4 := Lib.hid (own_holds ho)
  clear ho
  clear hb
  clear Rt1_4 Ut1
  have eaS0a : w2.cell? ⟨w.heap.size, 0, none⟩ = some (.slice a0 len0 cap0) := XaS_4.out.cell 0
  have eaS1a : w2.cell? ⟨w.heap.size, 1, none⟩ = some (.slice b0 m0 d0) := XaS_4.out.cell 1
  go_wp2_with fail
  clear eaS0a eaS1a
  refine (toStructure_any a0 len0 cap0 z0 b0 m0 d0 y0 _ (Inz0.out.below BW4.out)).mono ?_
  rintro e w3 ⟨Ax0, cx0, Bx0, dx0, rfl, ho, hb⟩
  have BW5 := Lib.hid (BW4.out.trans (hb.mono BW4.out.size))
  have sz5 : Hid (w2.heap.size ≤ w3.heap.size) := hb.size
  have Rw0_5 := Lib.hid (Rw0_4.out.below hb)
  have XaS_5 := Lib.hid (XaS_4.out.below hb XaS_4.out.lt)
  have Ux0 := Lib.hid ho.lt
  have Rx0_5 := Lib.hid ho.holds
  clear ho hb
  have BW6 := Lib.hid (BW5.out.alloc BW5.out.size (.cells #[.slice Ax0 len0 cx0, .slice Bx0 m0 dx0] 26))
  have sz6 : Hid (w3.heap.size + 1 ≤ (w3.alloc (.cells #[.slice Ax0 len0 cx0, .slice Bx0 m0 dx0] 26)).heap.size) := Lib.hid (by simp)
  have Rw0_6 := Lib.hid (Rw0_5.out.alloc (.cells #[.slice Ax0 len0 cx0, .slice Bx0 m0 dx0] 26))
  have Rx0_6 := Lib.hid (Rx0_5.out.alloc (.cells #[.slice Ax0 len0 cx0, .slice Bx0 m0 dx0] 26))
  have XaS_6 := Lib.hid (XaS_5.out.alloc (.cells #[.slice Ax0 len0 cx0, .slice Bx0 m0 dx0] 26))
  have Xx0_6 := Lib.hid (Box.new w3 26 #[.slice Ax0 len0 cx0, .slice Bx0 m0 dx0])
  go_wp2_with fail
  refine (impl_noLoad Ax0 len0 cx0 z0 Bx0 m0 dx0 y0 _ (tin Rx0_6 Ftz0 (by omega) (by omega))).mono ?_
  rintro e w4 ⟨r2_0, v0, rfl, his, h0, hb⟩
  have BW7 := Lib.hid (BW6.out.trans (hb.mono BW6.out.size))
  have sz7 : Hid ((w3.alloc (.cells #[.slice Ax0 len0 cx0, .slice Bx0 m0 dx0] 26)).heap.size ≤ w4.heap.size) := hb.size
  have Rw0_7 := Lib.hid (Rw0_6.out.below hb)
  have Rx0_7 := Lib.hid (Rx0_6.out.below hb)
  have XaS_7 := Lib.hid (XaS_6.out.below hb XaS_6.out.lt)
  have Xx0_7 := Lib.hid (Xx0_6.out.below hb Xx0_6.out.lt)
  obtain rfl := noLoad_unique IS.out his
  clear his
  obtain ⟨_, ho⟩ := h0
  rw [HN0.out] at ho
  obtain ⟨Ag0, cg0, rfl⟩ := own_slice ho
  have Ug0 := Lib.hid (show ∀ k, blk _ k → _ ∧ _ from fun k hk => ho.lt k hk)
  have Rg0_7 := Lib.hid (own_holds ho)
  clear ho
  clear hb
  go_wp2_with fail
  refine (eqIntS_same Ag0 Aw0 N0 cg0 cw0 r1_0 _ HN0.out (by unfold maxLen; omega) (Reads.of_own (inow Rg0_7)) (Reads.of_own (inow Rw0_7))).mono ?_
  rintro e w5 ⟨rfl, hb⟩
  have BW8 := Lib.hid (BW7.out.trans (hb.mono BW7.out.size))
  have sz8 : Hid (w4.heap.size ≤ w5.heap.size) := hb.size
  have Rw0_8 := Lib.hid (Rw0_7.out.below hb)
  have Rx0_8 := Lib.hid (Rx0_7.out.below hb)
  have Rg0_8 := Lib.hid (Rg0_7.out.below hb)
  have XaS_8 := Lib.hid (XaS_7.out.below hb XaS_7.out.lt)
  have Xx0_8 := Lib.hid (Xx0_7.out.below hb Xx0_7.out.lt)
  clear hb
  go_wp2_with fail
  have BW9 := Lib.hid BW8.out.drew
  have sz9 : Hid (w5.heap.size ≤ w5.drew.heap.size) := Nat.le_refl _
  have Rw0_9 := Lib.hid Rw0_8.out.drew
  have Rx0_9 := Lib.hid Rx0_8.out.drew
  have Rg0_9 := Lib.hid Rg0_8.out.drew
  have XaS_9 := Lib.hid XaS_8.out.drew
  have Xx0_9 := Lib.hid Xx0_8.out.drew
  have cvx00 : Hid ((#[.slice Ax0 len0 cx0, .slice Bx0 m0 dx0] : Array Value)[0]? = some (.slice Ax0 len0 cx0)) := rfl
  have cvx01 : Hid ((#[.slice Ax0 len0 cx0, .slice Bx0 m0 dx0] : Array Value)[1]? = some (.slice Bx0 m0 dx0)) := rfl
  have cvaS0 : Hid ((#[.slice a0 len0 cap0, .slice b0 m0 d0] : Array Value)[0]? = some (.slice a0 len0 cap0)) := rfl
  have cvaS1 : Hid ((#[.slice a0 len0 cap0, .slice b0 m0 d0] : Array Value)[1]? = some (.slice b0 m0 d0)) := rfl
  go_region_held3 (fun w' => w'.cell? ⟨w3.heap.size, 0, none⟩ = some (.slice Ax0 len0 cx0) ∧ w'.cell? ⟨w3.heap.size, 1, none⟩ = some (.slice Bx0 m0 dx0) ∧ w'.cell? ⟨w.heap.size, 0, none⟩ = some (.slice a0 len0 cap0) ∧ w'.cell? ⟨w.heap.size, 1, none⟩ = some (.slice b0 m0 d0)) (first | with_reducible exact ⟨cellS Xx0_11 cvx00, cellS Xx0_11 cvx01, cellS XaS_11 cvaS0, cellS XaS_11 cvaS1⟩ | with_reducible exact ⟨cellS Xx0_10 cvx00, cellS Xx0_10 cvx01, cellS XaS_10 cvaS0, cellS XaS_10 cvaS1⟩ | with_reducible exact ⟨cellS Xx0_9 cvx00, cellS Xx0_9 cvx01, cellS XaS_9 cvaS0, cellS XaS_9 cvaS1⟩) (first | (go_at_call 24; refine (eqStructure_same Ax0 At2 len0 cx0 ct2 z0 Bx0 Bt2 m0 dx0 dt2 y0 _ (tin Rx0_10 Ftz0 (by omega) (by omega)) (tin Rt2_10 Ftz0 (by omega) (by omega))).mono ?_; rintro e w7 ⟨rfl, hb⟩; have BW11 := Lib.hid (BW10.out.trans (hb.mono BW10.out.size)); have sz11 : Hid (w6.heap.size ≤ w7.heap.size) := hb.size; have Rw0_11 := Lib.hid (Rw0_10.out.below hb); have Rx0_11 := Lib.hid (Rx0_10.out.below hb); have Rg0_11 := Lib.hid (Rg0_10.out.below hb); have Rt2_11 := Lib.hid (Rt2_10.out.below hb); have XaS_11 := Lib.hid (XaS_10.out.below hb XaS_10.out.lt); have Xx0_11 := Lib.hid (Xx0_10.out.below hb Xx0_10.out.lt); clear hb) | (go_at_call 21; refine (toStructure_any a0 len0 cap0 z0 b0 m0 d0 y0 _ (Inz0.out.below BW9.out)).mono ?_; rintro e w6 ⟨At2, ct2, Bt2, dt2, rfl, ho, hb⟩; have BW10 := Lib.hid (BW9.out.trans (hb.mono BW9.out.size)); have sz10 : Hid (w5.drew.heap.size ≤ w6.heap.size) := hb.size; have Rw0_10 := Lib.hid (Rw0_9.out.below hb); have Rx0_10 := Lib.hid (Rx0_9.out.below hb); have Rg0_10 := Lib.hid (Rg0_9.out.below hb); have XaS_10 := Lib.hid (XaS_9.out.below hb XaS_9.out.lt); have Xx0_10 := Lib.hid (Xx0_9.out.below hb Xx0_9.out.lt); have Ut2 := Lib.hid ho.lt; have Rt2_10 := Lib.hid ho.holds; clear ho hb))
  clear cvx00 cvx01 cvaS0 cvaS1
  clear Rt2_11 Ut2
  have ex00a : w7.cell? ⟨w3.heap.size, 0, none⟩ = some (.slice Ax0 len0 cx0) := Xx0_11.out.cell 0
  have ex01a : w7.cell? ⟨w3.heap.size, 1, none⟩ = some (.slice Bx0 m0 dx0) := Xx0_11.out.cell 1
  go_wp2_with fail
  clear ex00a ex01a
  refine (markStructure_own _ Ax0 len0 cx0 (1) z0 Bx0 m0 dx0 y0 _ (by omega) (by unfold maxLen; omega) (tnow Rx0_11)).mono ?_
  rintro e w8 ⟨rfl, ho, hW⟩
  have BW12 := Lib.hid (Wrote.below BW11.out hW (fun k hk => Nat.le_trans (Nat.le_trans (Nat.le_of_succ_le sz1.out) (Nat.le_trans sz2.out (Nat.le_trans sz3.out sz4.out))) (Ux0.out k hk).1) (Nat.le_trans (Nat.le_of_succ_le sz1.out) (Nat.le_trans sz2.out (Nat.le_trans sz3.out (Nat.le_trans sz4.out (Nat.le_trans sz5.out (Nat.le_trans (Nat.le_of_succ_le sz6.out) (Nat.le_trans sz7.out (Nat.le_trans sz8.out (Nat.le_trans sz9.out (Nat.le_trans sz10.out sz11.out)))))))))))
  have sz12 : Hid (w7.heap.size ≤ w8.heap.size) := hW.size
  have Rw0_12 := Lib.hid (Rw0_11.out.wrote hW (two_none Uw0 Ux0 (.inl (Nat.le_refl _))))
  have Rg0_12 := Lib.hid (Rg0_11.out.wrote hW (two_none Ug0 Ux0 (.inr (Nat.le_of_succ_le sz6.out))))
  have XaS_12 := Lib.hid (XaS_11.out.wrote hW Ux0 (.inl (Nat.lt_of_lt_of_le (Nat.lt_of_succ_le sz1.out) (Nat.le_trans sz2.out (Nat.le_trans sz3.out sz4.out)))))
  have Xx0_12 := Lib.hid (Xx0_11.out.wrote hW Ux0 (.inr (Nat.le_refl _)))
  have Rx0_12 := Lib.hid ho.holds
  clear ho hW
  clear Rx0_12 Ux0 Xx0_12
  go_wp2_with fail
  refine (eqIntS_same Ag0 Aw0 N0 cg0 cw0 r1_0 _ HN0.out (by unfold maxLen; omega) (Reads.of_own (inow Rg0_12)) (Reads.of_own (inow Rw0_12))).mono ?_
  rintro e w9 ⟨rfl, hb⟩
  have BW13 := Lib.hid (BW12.out.trans (hb.mono BW12.out.size))
  have sz13 : Hid (w8.heap.size ≤ w9.heap.size) := hb.size
  have Rw0_13 := Lib.hid (Rw0_12.out.below hb)
  have Rg0_13 := Lib.hid (Rg0_12.out.below hb)
  have XaS_13 := Lib.hid (XaS_12.out.below hb XaS_12.out.lt)
  clear hb
  go_wp2_with fail
  refine (markIntS_own _ Ag0 N0 cg0 (1) _ _ (by unfold maxLen; omega) (inow Rg0_13) (ints_are _)).mono ?_
  rintro e w10 ⟨rfl, ho, hg⟩
  have hW := Wrote.of_grown hg
  have BW14 := Lib.hid (Wrote.below BW13.out hW (fun k hk => Nat.le_trans (Nat.le_trans (Nat.le_of_succ_le sz1.out) (Nat.le_trans sz2.out (Nat.le_trans sz3.out (Nat.le_trans sz4.out (Nat.le_trans sz5.out (Nat.le_of_succ_le sz6.out)))))) (Ug0.out k hk).1) (Nat.le_trans (Nat.le_of_succ_le sz1.out) (Nat.le_trans sz2.out (Nat.le_trans sz3.out (Nat.le_trans sz4.out (Nat.le_trans sz5.out (Nat.le_trans (Nat.le_of_succ_le sz6.out) (Nat.le_trans sz7.out (Nat.le_trans sz8.out (Nat.le_trans sz9.out (Nat.le_trans sz10.out (Nat.le_trans sz11.out (Nat.le_trans sz12.out sz13.out)))))))))))))
  have sz14 : Hid (w9.heap.size ≤ w10.heap.size) := hW.size
  have Rw0_14 := Lib.hid (Rw0_13.out.wrote hW (two_none Uw0 Ug0 (.inl (Nat.le_trans sz5.out (Nat.le_of_succ_le sz6.out)))))
  have XaS_14 := Lib.hid (XaS_13.out.wrote hW Ug0 (.inl (Nat.lt_of_lt_of_le (Nat.lt_of_succ_le sz1.out) (Nat.le_trans sz2.out (Nat.le_trans sz3.out (Nat.le_trans sz4.out (Nat.le_trans sz5.out (Nat.le_of_succ_le sz6.out))))))))
  have Rg0_14 := Lib.hid (own_holds ho)
  clear hg
  clear ho hW
  go_wp2_with fail
  refine (heldIntS_same Ag0 N0 cg0 (1) _ (by unfold maxLen; omega) (Reads.of_own (inow Rg0_14))).mono ?_
  rintro e w11 ⟨rfl, hb⟩
  have BW15 := Lib.hid (BW14.out.trans (hb.mono BW14.out.size))
  have sz15 : Hid (w10.heap.size ≤ w11.heap.size) := hb.size
  have Rw0_15 := Lib.hid (Rw0_14.out.below hb)
  have Rg0_15 := Lib.hid (Rg0_14.out.below hb)
  have XaS_15 := Lib.hid (XaS_14.out.below hb XaS_14.out.lt)
  clear hb
  have eaS0a : w11.cell? ⟨w.heap.size, 0, none⟩ = some (.slice a0 len0 cap0) := XaS_15.out.cell 0
  have eaS1a : w11.cell? ⟨w.heap.size, 1, none⟩ = some (.slice b0 m0 d0) := XaS_15.out.cell 1
  go_wp2_with fail
  clear eaS0a eaS1a
  refine (toStructure_any a0 len0 cap0 z0 b0 m0 d0 y0 _ (Inz0.out.below BW15.out)).mono ?_
  rintro e w12 ⟨At3, ct3, Bt3, dt3, rfl, ho, hb⟩
  have BW16 := Lib.hid (BW15.out.trans (hb.mono BW15.out.size))
  have sz16 : Hid (w11.heap.size ≤ w12.heap.size) := hb.size
  have Rw0_16 := Lib.hid (Rw0_15.out.below hb)
  have Rg0_16 := Lib.hid (Rg0_15.out.below hb)
  have XaS_16 := Lib.hid (XaS_15.out.below hb XaS_15.out.lt)
  have Ut3 := Lib.hid ho.lt
  have Rt3_16 := Lib.hid ho.holds
  clear ho hb
  go_wp2_with fail
  refine (impl_noLoad At3 len0 ct3 z0 Bt3 m0 dt3 y0 _ (tin Rt3_16 Ftz0 (by omega) (by omega))).mono ?_
  rintro e w13 ⟨r3_0, v0, rfl, his, h0, hb⟩
  have BW17 := Lib.hid (BW16.out.trans (hb.mono BW16.out.size))
  have sz17 : Hid (w12.heap.size ≤ w13.heap.size) := hb.size
  have Rw0_17 := Lib.hid (Rw0_16.out.below hb)
  have Rg0_17 := Lib.hid (Rg0_16.out.below hb)
  have Rt3_17 := Lib.hid (Rt3_16.out.below hb)
  have XaS_17 := Lib.hid (XaS_16.out.below hb XaS_16.out.lt)
  obtain rfl := noLoad_unique IS.out his
  clear his
  obtain ⟨_, ho⟩ := h0
  rw [HN0.out] at ho
  obtain ⟨Ah0, ch0, rfl⟩ := own_slice ho
  have Uh0 := Lib.hid (show ∀ k, blk _ k → _ ∧ _ from fun k hk => ho.lt k hk)
  have Rh0_17 := Lib.hid (own_holds ho)
  clear ho
  clear hb
  clear Rt3_17 Ut3
  go_wp2_with fail
  refine (eqIntS_same Ah0 Aw0 N0 ch0 cw0 r1_0 _ HN0.out (by unfold maxLen; omega) (Reads.of_own (inow Rh0_17)) (Reads.of_own (inow Rw0_17))).mono ?_
  rintro e w14 ⟨rfl, hb⟩
  have BW18 := Lib.hid (BW17.out.trans (hb.mono BW17.out.size))
  have sz18 : Hid (w13.heap.size ≤ w14.heap.size) := hb.size
  have Rw0_18 := Lib.hid (Rw0_17.out.below hb)
  have Rg0_18 := Lib.hid (Rg0_17.out.below hb)
  have Rh0_18 := Lib.hid (Rh0_17.out.below hb)
  have XaS_18 := Lib.hid (XaS_17.out.below hb XaS_17.out.lt)
  clear hb
  clear Rw0_18 Uw0
  clear Rh0_18 Uh0
  go_wp2_with fail
  refine (heldIntS_same Ag0 N0 cg0 (1) _ (by unfold maxLen; omega) (Reads.of_own (inow Rg0_18))).mono ?_
  rintro e w15 ⟨rfl, hb⟩
  have BW19 := Lib.hid (BW18.out.trans (hb.mono BW18.out.size))
  have sz19 : Hid (w14.heap.size ≤ w15.heap.size) := hb.size
  have Rg0_19 := Lib.hid (Rg0_18.out.below hb)
  have XaS_19 := Lib.hid (XaS_18.out.below hb XaS_18.out.lt)
  clear hb
  clear Rg0_19 Ug0
  go_wp2_with fail
  go_ret
  exact ⟨rfl, BW19.out⟩
end Go.Proofs.Ytipmeijfmiiedaa.fnExactNoLoad
