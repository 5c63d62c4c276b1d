/- The walk of the law: for all arguments the law FnExactMixLoads returns true: the program's MixLoads answers as the model's; no condition on them. -/
import Derived.Test.YtipmeijfmiiedaaStM6
import Derived.Test.YtipmeijfmiiedaaLdY
import Derived.ProofKit
import Derived.OpenShut
import Derived.ShutString
import Derived.Lib.SmallJoins
namespace Go.Proofs.Ytipmeijfmiiedaa.fnExactMixLoads
set_option maxRecDepth 100000
open Go.ChangeShapes Go.WideShapes Go.ChangeAt Go.RowKit Go.Joins Go.Deep
open Go.ChangeMaps (open_string shut_string)

set_option maxRecDepth 100000 in
set_option maxHeartbeats 16000000 in
theorem walk {w : World} (a0 : Option Addr) (len0 cap0 : Nat) (z0 : List JD) (hz0 : IsJ w a0 len0 z0) (b0 : Option Addr) (m0 d0 : Nat) (y0 : List MD) (hy0 : IsM w b0 m0 y0) (a1 : Option Addr) (len1 cap1 : Nat) (z1 : List RowE) (hz1 : IsII w a1 len1 z1) (a2 : Option Addr) (len2 cap2 : Nat) (z2 : List Int) (hz2 : IsInts w a2 len2 z2) :
    Calls Try.prog 7 #[.agg #[.slice a0 len0 cap0, .slice b0 m0 d0], .slice a1 len1 cap1, .slice a2 len2 cap2] w fun e w' => e = .returned (.bool true) ∧ Below w.heap.size w w' := by
  have hmz0 : len0 ≤ maxLen := hz0.2.1
  have Hz0 := Lib.hid hz0
  clear hz0
  have hmy0 : m0 ≤ maxLen := hy0.2.1
  have Hy0 := Lib.hid hy0
  clear hy0
  have hmz1 : len1 ≤ maxLen := hz1.2.1
  have Hz1 := Lib.hid hz1
  clear hz1
  have hmz2 : len2 ≤ maxLen := hz2.2.1
  have Hz2 := Lib.hid hz2
  clear hz2
  have BW0 : Hid (Below w.heap.size w w) := Below.refl _ _
  have BW1 := Lib.hid (BW0.out.alloc BW0.out.size (.cells #[.slice a0 len0 cap0, .slice b0 m0 d0] 44))
  have sz1 : Hid (w.heap.size + 1 ≤ (w.alloc (.cells #[.slice a0 len0 cap0, .slice b0 m0 d0] 44)).heap.size) := Lib.hid (by simp)
  have XaS_1 := Lib.hid (Box.new w 44 #[.slice a0 len0 cap0, .slice b0 m0 d0])
  by_cases biga2 : 1048576 < (len2 : Int)
  · go_enter Try.func7, Try.ntmps7
    go_wp2_with fail
    go_ret
    exact ⟨rfl, BW1.out⟩
  have Inz2 : Hid (InI w a2 len2 z2) := ⟨Hz2.out.1, by omega, Hz2.out.2.2.1, Hz2.out.2.2.2⟩
  go_enter Try.func7, Try.ntmps7
  have eaS0a : (w.alloc (.cells #[.slice a0 len0 cap0, .slice b0 m0 d0] 44)).cell? ⟨w.heap.size, 0, none⟩ = some (.slice a0 len0 cap0) := XaS_1.out.cell 0
  have eaS1a : (w.alloc (.cells #[.slice a0 len0 cap0, .slice b0 m0 d0] 44)).cell? ⟨w.heap.size, 1, none⟩ = some (.slice b0 m0 d0) := XaS_1.out.cell 1
  go_wp2_with fail
  clear eaS0a eaS1a
  refine (szStructure_any a0 len0 cap0 z0 b0 m0 d0 (1048576 : Int) _ (Hz0.out.below BW1.out) hmy0 (by omega) (by omega)).mono ?_
  rintro e ws0 ⟨lf0, rfl, hr, hb⟩
  have BW2 := Lib.hid (BW1.out.trans (hb.mono BW1.out.size))
  have sz2 : Hid ((w.alloc (.cells #[.slice a0 len0 cap0, .slice b0 m0 d0] 44)).heap.size ≤ ws0.heap.size) := hb.size
  have XaS_2 := Lib.hid (XaS_1.out.below hb XaS_1.out.lt)
  clear hb
  rcases hr with rfl | ⟨h0, hr⟩
  · go_wp2_with fail
    go_ret
    exact ⟨rfl, BW2.out⟩
  have lb0 : 0 ≤ lf0 ∧ lf0 ≤ 1048576 := by omega
  have ls0 : lf0 + ((len0 : Int) + jtot z0 + m0) = (1048576 : Int) := by omega
  have HLS0 := Lib.hid ls0
  have lt0 : len0 + jtot z0 + m0 ≤ 1048576 := by omega
  clear ls0 hr
  have h00 := h0
  clear h0
  have Inz0 : Hid (InT w a0 len0 z0 b0 m0 y0) := ⟨Hz0.out.inJ (by omega), Hy0.out.inM (by omega)⟩
  have Ftz0 : Hid (TFit len0 z0 m0 y0) := ⟨Inz0.out.1.1, Inz0.out.2.1, Inz0.out.1.2.2.2, Inz0.out.2.2.2.2⟩
  go_wp2_with fail
  refine (szIntSS_any a1 len1 cap1 z1 lf0 _ (Hz1.out.below BW2.out) (by omega) (by omega)).mono ?_
  rintro e ws1 ⟨lf1, rfl, hr, hb⟩
  have BW3 := Lib.hid (BW2.out.trans (hb.mono BW2.out.size))
  have sz3 : Hid (ws0.heap.size ≤ ws1.heap.size) := hb.size
  have XaS_3 := Lib.hid (XaS_2.out.below hb XaS_2.out.lt)
  clear hb
  rcases hr with rfl | ⟨h0, hr⟩
  · go_wp2_with fail
    go_ret
    exact ⟨rfl, BW3.out⟩
  have lb1 : 0 ≤ lf1 ∧ lf1 ≤ 1048576 := by omega
  have ls1 : lf1 + ((len1 : Int) + rtot z1) = lf0 := by omega
  have HLS1 := Lib.hid ls1
  have lt1 : len1 + rtot z1 ≤ 1048576 := by omega
  clear ls1 hr
  have h01 := h0
  clear h0
  have Inz1 : Hid (InII w a1 len1 z1) := Hz1.out.inII (by omega)
  have eaS0a : ws1.cell? ⟨w.heap.size, 0, none⟩ = some (.slice a0 len0 cap0) := XaS_3.out.cell 0
  have eaS1a : ws1.cell? ⟨w.heap.size, 1, none⟩ = some (.slice b0 m0 d0) := XaS_3.out.cell 1
  go_wp2_with fail
  clear eaS0a eaS1a
  refine (toStructure_any a0 len0 cap0 z0 b0 m0 d0 y0 _ (Inz0.out.below BW3.out)).mono ?_
  rintro e w1 ⟨At1, ct1, Bt1, dt1, rfl, ho, hb⟩
  have BW4 := Lib.hid (BW3.out.trans (hb.mono BW3.out.size))
  have sz4 : Hid (ws1.heap.size ≤ w1.heap.size) := hb.size
  have XaS_4 := Lib.hid (XaS_3.out.below hb XaS_3.out.lt)
  have Ut1 := Lib.hid ho.lt
  have Rt1_4 := Lib.hid ho.holds
  clear ho hb
  go_wp2_with fail
  refine (toIntSS_any a1 len1 cap1 z1 _ (Inz1.out.below BW4.out)).mono ?_
  rintro e w2 ⟨At2, ct2, Lt2, rfl, ho, hal, hb⟩
  have BW5 := Lib.hid (BW4.out.trans (hb.mono BW4.out.size))
  have sz5 : Hid (w1.heap.size ≤ w2.heap.size) := hb.size
  have Rt1_5 := Lib.hid (Rt1_4.out.below hb)
  have XaS_5 := Lib.hid (XaS_4.out.below hb XaS_4.out.lt)
  have Ut2 := Lib.hid ho.lt
  have Rt2_5 := Lib.hid ho.holds
  have ALt2 := Lib.hid hal
  have FTt2 : Hid (RFit Lt2) := Lib.hid (hal.fit Inz1.out.fit)
  obtain ⟨mt2, hmt2⟩ : ∃ m, m = rtot Lt2 := ⟨_, rfl⟩
  have Mt2 : Hid (mt2 = rtot z1) := Lib.hid (by rw [hmt2]; exact hal.tot Inz1.out.fit)
  have Qt2 : Hid (rtot Lt2 = mt2) := hmt2.symm
  clear hmt2
  clear ho hal hb
  go_wp2_with fail
  refine (toIntS_any a2 len2 cap2 z2 _ Inz2.out.len Inz2.out.le (Inz2.out.rd.below BW5.out)).mono ?_
  rintro e w3 ⟨v, rfl, ho, hb⟩
  have BW6 := Lib.hid (BW5.out.trans (hb.mono BW5.out.size))
  have sz6 : Hid (w2.heap.size ≤ w3.heap.size) := hb.size
  have Rt1_6 := Lib.hid (Rt1_5.out.below hb)
  have Rt2_6 := Lib.hid (Rt2_5.out.below hb)
  have XaS_6 := Lib.hid (XaS_5.out.below hb XaS_5.out.lt)
  obtain ⟨At3, ct3, rfl⟩ := own_slice ho
  have Ut3 := Lib.hid (show ∀ k, blk _ k → _ ∧ _ from fun k hk => ho.lt k hk)
  have Rt3_6 := Lib.hid (own_holds ho)
  clear ho hb
  go_wp2_with fail
  refine (spec_mixLoads At1 len0 ct1 z0 Bt1 m0 dt1 y0 At2 len1 ct2 Lt2 At3 len2 ct3 z2 _ (tin Rt1_6 Ftz0 (by omega) (by omega)) (iiin Rt2_6 FTt2 (by omega)) (Inz2.out.own (inow Rt3_6))).mono ?_
  rintro e w4 ⟨r1_0, v0, r1_1, rfl, his, h0, hb⟩
  have BW7 := Lib.hid (BW6.out.trans (hb.mono BW6.out.size))
  have sz7 : Hid (w3.heap.size ≤ w4.heap.size) := hb.size
  have Rt1_7 := Lib.hid (Rt1_6.out.below hb)
  have Rt2_7 := Lib.hid (Rt2_6.out.below hb)
  have Rt3_7 := Lib.hid (Rt3_6.out.below hb)
  have XaS_7 := Lib.hid (XaS_6.out.below hb XaS_6.out.lt)
  rw [ALt2.out.1] at his
  have IS := Lib.hid his
  clear his
  obtain ⟨hl, ho⟩ := h0
  obtain ⟨N0, hN⟩ : ∃ N, N = r1_0.length := ⟨_, rfl⟩
  rw [← hN] at hl ho
  have HN0 : Hid (r1_0.length = N0) := hN.symm
  have hl0 := hl
  clear hN hl
  obtain ⟨Aw0, cw0, rfl⟩ := own_slice ho
  have Uw0 := Lib.hid (show ∀ k, blk _ k → _ ∧ _ from fun k hk => ho.lt k hk)
  have Rw0_7 := Lib.hid (own_holds ho)
  clear ho
  clear hb
  clear Rt1_7 Ut1
  clear Rt2_7 Ut2
  clear Rt3_7 Ut3
  have eaS0a : w4.cell? ⟨w.heap.size, 0, none⟩ = some (.slice a0 len0 cap0) := XaS_7.out.cell 0
  have eaS1a : w4.cell? ⟨w.heap.size, 1, none⟩ = some (.slice b0 m0 d0) := XaS_7.out.cell 1
  go_wp2_with fail
  clear eaS0a eaS1a
  refine (toStructure_any a0 len0 cap0 z0 b0 m0 d0 y0 _ (Inz0.out.below BW7.out)).mono ?_
  rintro e w5 ⟨Ax0, cx0, Bx0, dx0, rfl, ho, hb⟩
  have BW8 := Lib.hid (BW7.out.trans (hb.mono BW7.out.size))
  have sz8 : Hid (w4.heap.size ≤ w5.heap.size) := hb.size
  have Rw0_8 := Lib.hid (Rw0_7.out.below hb)
  have XaS_8 := Lib.hid (XaS_7.out.below hb XaS_7.out.lt)
  have Ux0 := Lib.hid ho.lt
  have Rx0_8 := Lib.hid ho.holds
  clear ho hb
  have BW9 := Lib.hid (BW8.out.alloc BW8.out.size (.cells #[.slice Ax0 len0 cx0, .slice Bx0 m0 dx0] 26))
  have sz9 : Hid (w5.heap.size + 1 ≤ (w5.alloc (.cells #[.slice Ax0 len0 cx0, .slice Bx0 m0 dx0] 26)).heap.size) := Lib.hid (by simp)
  have Rw0_9 := Lib.hid (Rw0_8.out.alloc (.cells #[.slice Ax0 len0 cx0, .slice Bx0 m0 dx0] 26))
  have Rx0_9 := Lib.hid (Rx0_8.out.alloc (.cells #[.slice Ax0 len0 cx0, .slice Bx0 m0 dx0] 26))
  have XaS_9 := Lib.hid (XaS_8.out.alloc (.cells #[.slice Ax0 len0 cx0, .slice Bx0 m0 dx0] 26))
  have Xx0_9 := Lib.hid (Box.new w5 26 #[.slice Ax0 len0 cx0, .slice Bx0 m0 dx0])
  go_wp2_with fail
  refine (toIntSS_any a1 len1 cap1 z1 _ (Inz1.out.below BW9.out)).mono ?_
  rintro e w6 ⟨Ax1, cx1, Lx1, rfl, ho, hal, hb⟩
  have BW10 := Lib.hid (BW9.out.trans (hb.mono BW9.out.size))
  have sz10 : Hid ((w5.alloc (.cells #[.slice Ax0 len0 cx0, .slice Bx0 m0 dx0] 26)).heap.size ≤ w6.heap.size) := hb.size
  have Rw0_10 := Lib.hid (Rw0_9.out.below hb)
  have Rx0_10 := Lib.hid (Rx0_9.out.below hb)
  have XaS_10 := Lib.hid (XaS_9.out.below hb XaS_9.out.lt)
  have Xx0_10 := Lib.hid (Xx0_9.out.below hb Xx0_9.out.lt)
  have Ux1 := Lib.hid ho.lt
  have Rx1_10 := Lib.hid ho.holds
  have ALx1 := Lib.hid hal
  have FTx1 : Hid (RFit Lx1) := Lib.hid (hal.fit Inz1.out.fit)
  obtain ⟨mx1, hmx1⟩ : ∃ m, m = rtot Lx1 := ⟨_, rfl⟩
  have Mx1 : Hid (mx1 = rtot z1) := Lib.hid (by rw [hmx1]; exact hal.tot Inz1.out.fit)
  have Qx1 : Hid (rtot Lx1 = mx1) := hmx1.symm
  clear hmx1
  clear ho hal hb
  go_wp2_with fail
  refine (toIntS_any a2 len2 cap2 z2 _ Inz2.out.len Inz2.out.le (Inz2.out.rd.below BW10.out)).mono ?_
  rintro e w7 ⟨v, rfl, ho, hb⟩
  have BW11 := Lib.hid (BW10.out.trans (hb.mono BW10.out.size))
  have sz11 : Hid (w6.heap.size ≤ w7.heap.size) := hb.size
  have Rw0_11 := Lib.hid (Rw0_10.out.below hb)
  have Rx0_11 := Lib.hid (Rx0_10.out.below hb)
  have Rx1_11 := Lib.hid (Rx1_10.out.below hb)
  have XaS_11 := Lib.hid (XaS_10.out.below hb XaS_10.out.lt)
  have Xx0_11 := Lib.hid (Xx0_10.out.below hb Xx0_10.out.lt)
  obtain ⟨Ax2, cx2, rfl⟩ := own_slice ho
  have Ux2 := Lib.hid (show ∀ k, blk _ k → _ ∧ _ from fun k hk => ho.lt k hk)
  have Rx2_11 := Lib.hid (own_holds ho)
  clear ho hb
  have ex00a : w7.cell? ⟨w5.heap.size, 0, none⟩ = some (.slice Ax0 len0 cx0) := Xx0_11.out.cell 0
  have ex01a : w7.cell? ⟨w5.heap.size, 1, none⟩ = some (.slice Bx0 m0 dx0) := Xx0_11.out.cell 1
  go_wp2_with fail
  clear ex00a ex01a
  refine (impl_mixLoads Ax0 len0 cx0 z0 Bx0 m0 dx0 y0 Ax1 len1 cx1 Lx1 Ax2 len2 cx2 z2 _ (tin Rx0_11 Ftz0 (by omega) (by omega)) (iiin Rx1_11 FTx1 (by omega)) (Inz2.out.own (inow Rx2_11))).mono ?_
  rintro e w8 ⟨r2_0, v0, r2_1, rfl, his, h0, hb⟩
  have BW12 := Lib.hid (BW11.out.trans (hb.mono BW11.out.size))
  have sz12 : Hid (w7.heap.size ≤ w8.heap.size) := hb.size
  have Rw0_12 := Lib.hid (Rw0_11.out.below hb)
  have Rx0_12 := Lib.hid (Rx0_11.out.below hb)
  have Rx1_12 := Lib.hid (Rx1_11.out.below hb)
  have Rx2_12 := Lib.hid (Rx2_11.out.below hb)
  have XaS_12 := Lib.hid (XaS_11.out.below hb XaS_11.out.lt)
  have Xx0_12 := Lib.hid (Xx0_11.out.below hb Xx0_11.out.lt)
  rw [ALx1.out.1] at his
  obtain ⟨rfl, rfl⟩ := mixLoads_unique IS.out his
  clear his
  obtain ⟨_, ho⟩ := h0
  rw [HN0.out] at ho
  obtain ⟨Ag0, cg0, rfl⟩ := own_slice ho
  have Ug0 := Lib.hid (show ∀ k, blk _ k → _ ∧ _ from fun k hk => ho.lt k hk)
  have Rg0_12 := Lib.hid (own_holds ho)
  clear ho
  clear hb
  go_wp2_with fail
  refine (eqIntS_same Ag0 Aw0 N0 cg0 cw0 r1_0 _ HN0.out (by unfold maxLen; omega) (Reads.of_own (inow Rg0_12)) (Reads.of_own (inow Rw0_12))).mono ?_
  rintro e w9 ⟨rfl, hb⟩
  have BW13 := Lib.hid (BW12.out.trans (hb.mono BW12.out.size))
  have sz13 : Hid (w8.heap.size ≤ w9.heap.size) := hb.size
  have Rw0_13 := Lib.hid (Rw0_12.out.below hb)
  have Rx0_13 := Lib.hid (Rx0_12.out.below hb)
  have Rx1_13 := Lib.hid (Rx1_12.out.below hb)
  have Rx2_13 := Lib.hid (Rx2_12.out.below hb)
  have Rg0_13 := Lib.hid (Rg0_12.out.below hb)
  have XaS_13 := Lib.hid (XaS_12.out.below hb XaS_12.out.lt)
  have Xx0_13 := Lib.hid (Xx0_12.out.below hb Xx0_12.out.lt)
  clear hb
  go_wp2_with fail
  have BW14 := Lib.hid BW13.out.drew
  have sz14 : Hid (w9.heap.size ≤ w9.drew.heap.size) := Nat.le_refl _
  have Rw0_14 := Lib.hid Rw0_13.out.drew
  have Rx0_14 := Lib.hid Rx0_13.out.drew
  have Rx1_14 := Lib.hid Rx1_13.out.drew
  have Rx2_14 := Lib.hid Rx2_13.out.drew
  have Rg0_14 := Lib.hid Rg0_13.out.drew
  have XaS_14 := Lib.hid XaS_13.out.drew
  have Xx0_14 := Lib.hid Xx0_13.out.drew
  have cvx00 : Hid ((#[.slice Ax0 len0 cx0, .slice Bx0 m0 dx0] : Array Value)[0]? = some (.slice Ax0 len0 cx0)) := rfl
  have cvx01 : Hid ((#[.slice Ax0 len0 cx0, .slice Bx0 m0 dx0] : Array Value)[1]? = some (.slice Bx0 m0 dx0)) := rfl
  have cvaS0 : Hid ((#[.slice a0 len0 cap0, .slice b0 m0 d0] : Array Value)[0]? = some (.slice a0 len0 cap0)) := rfl
  have cvaS1 : Hid ((#[.slice a0 len0 cap0, .slice b0 m0 d0] : Array Value)[1]? = some (.slice b0 m0 d0)) := rfl
  go_region_held3 (fun w' => w'.cell? ⟨w5.heap.size, 0, none⟩ = some (.slice Ax0 len0 cx0) ∧ w'.cell? ⟨w5.heap.size, 1, none⟩ = some (.slice Bx0 m0 dx0) ∧ w'.cell? ⟨w.heap.size, 0, none⟩ = some (.slice a0 len0 cap0) ∧ w'.cell? ⟨w.heap.size, 1, none⟩ = some (.slice b0 m0 d0)) (first | with_reducible exact ⟨cellS Xx0_16 cvx00, cellS Xx0_16 cvx01, cellS XaS_16 cvaS0, cellS XaS_16 cvaS1⟩ | with_reducible exact ⟨cellS Xx0_15 cvx00, cellS Xx0_15 cvx01, cellS XaS_15 cvaS0, cellS XaS_15 cvaS1⟩ | with_reducible exact ⟨cellS Xx0_14 cvx00, cellS Xx0_14 cvx01, cellS XaS_14 cvaS0, cellS XaS_14 cvaS1⟩) (first | (go_at_call 24; refine (eqStructure_same Ax0 At4 len0 cx0 ct4 z0 Bx0 Bt4 m0 dx0 dt4 y0 _ (tin Rx0_15 Ftz0 (by omega) (by omega)) (tin Rt4_15 Ftz0 (by omega) (by omega))).mono ?_; rintro e w11 ⟨rfl, hb⟩; have BW16 := Lib.hid (BW15.out.trans (hb.mono BW15.out.size)); have sz16 : Hid (w10.heap.size ≤ w11.heap.size) := hb.size; have Rw0_16 := Lib.hid (Rw0_15.out.below hb); have Rx0_16 := Lib.hid (Rx0_15.out.below hb); have Rx1_16 := Lib.hid (Rx1_15.out.below hb); have Rx2_16 := Lib.hid (Rx2_15.out.below hb); have Rg0_16 := Lib.hid (Rg0_15.out.below hb); have Rt4_16 := Lib.hid (Rt4_15.out.below hb); have XaS_16 := Lib.hid (XaS_15.out.below hb XaS_15.out.lt); have Xx0_16 := Lib.hid (Xx0_15.out.below hb Xx0_15.out.lt); clear hb) | (go_at_call 21; refine (toStructure_any a0 len0 cap0 z0 b0 m0 d0 y0 _ (Inz0.out.below BW14.out)).mono ?_; rintro e w10 ⟨At4, ct4, Bt4, dt4, rfl, ho, hb⟩; have BW15 := Lib.hid (BW14.out.trans (hb.mono BW14.out.size)); have sz15 : Hid (w9.drew.heap.size ≤ w10.heap.size) := hb.size; have Rw0_15 := Lib.hid (Rw0_14.out.below hb); have Rx0_15 := Lib.hid (Rx0_14.out.below hb); have Rx1_15 := Lib.hid (Rx1_14.out.below hb); have Rx2_15 := Lib.hid (Rx2_14.out.below hb); have Rg0_15 := Lib.hid (Rg0_14.out.below hb); have XaS_15 := Lib.hid (XaS_14.out.below hb XaS_14.out.lt); have Xx0_15 := Lib.hid (Xx0_14.out.below hb Xx0_14.out.lt); have Ut4 := Lib.hid ho.lt; have Rt4_15 := Lib.hid ho.holds; clear ho hb))
  clear cvx00 cvx01 cvaS0 cvaS1
  clear Rt4_16 Ut4
  go_wp2_with fail
  refine (toIntSS_any a1 len1 cap1 z1 _ (Inz1.out.below BW16.out)).mono ?_
  rintro e w12 ⟨At5, ct5, Lt5, rfl, ho, hal, hb⟩
  have BW17 := Lib.hid (BW16.out.trans (hb.mono BW16.out.size))
  have sz17 : Hid (w11.heap.size ≤ w12.heap.size) := hb.size
  have Rw0_17 := Lib.hid (Rw0_16.out.below hb)
  have Rx0_17 := Lib.hid (Rx0_16.out.below hb)
  have Rx1_17 := Lib.hid (Rx1_16.out.below hb)
  have Rx2_17 := Lib.hid (Rx2_16.out.below hb)
  have Rg0_17 := Lib.hid (Rg0_16.out.below hb)
  have XaS_17 := Lib.hid (XaS_16.out.below hb XaS_16.out.lt)
  have Xx0_17 := Lib.hid (Xx0_16.out.below hb Xx0_16.out.lt)
  have Ut5 := Lib.hid ho.lt
  have Rt5_17 := Lib.hid ho.holds
  have ALt5 := Lib.hid hal
  have FTt5 : Hid (RFit Lt5) := Lib.hid (hal.fit Inz1.out.fit)
  obtain ⟨mt5, hmt5⟩ : ∃ m, m = rtot Lt5 := ⟨_, rfl⟩
  have Mt5 : Hid (mt5 = rtot z1) := Lib.hid (by rw [hmt5]; exact hal.tot Inz1.out.fit)
  have Qt5 : Hid (rtot Lt5 = mt5) := hmt5.symm
  clear hmt5
  clear ho hal hb
  go_wp2_with fail
  refine (eqIntSS_same Ax1 At5 len1 cx1 ct5 Lx1 Lt5 _ (iiin Rx1_17 FTx1 (by omega)) (iiin Rt5_17 FTt5 (by omega)) (ALx1.out.1.trans ALt5.out.1.symm)).mono ?_
  rintro e w13 ⟨rfl, hb⟩
  have BW18 := Lib.hid (BW17.out.trans (hb.mono BW17.out.size))
  have sz18 : Hid (w12.heap.size ≤ w13.heap.size) := hb.size
  have Rw0_18 := Lib.hid (Rw0_17.out.below hb)
  have Rx0_18 := Lib.hid (Rx0_17.out.below hb)
  have Rx1_18 := Lib.hid (Rx1_17.out.below hb)
  have Rx2_18 := Lib.hid (Rx2_17.out.below hb)
  have Rg0_18 := Lib.hid (Rg0_17.out.below hb)
  have Rt5_18 := Lib.hid (Rt5_17.out.below hb)
  have XaS_18 := Lib.hid (XaS_17.out.below hb XaS_17.out.lt)
  have Xx0_18 := Lib.hid (Xx0_17.out.below hb Xx0_17.out.lt)
  clear hb
  clear Rt5_18 Ut5
  go_wp2_with fail
  refine (toIntS_any a2 len2 cap2 z2 _ Inz2.out.len Inz2.out.le (Inz2.out.rd.below BW18.out)).mono ?_
  rintro e w14 ⟨v, rfl, ho, hb⟩
  have BW19 := Lib.hid (BW18.out.trans (hb.mono BW18.out.size))
  have sz19 : Hid (w13.heap.size ≤ w14.heap.size) := hb.size
  have Rw0_19 := Lib.hid (Rw0_18.out.below hb)
  have Rx0_19 := Lib.hid (Rx0_18.out.below hb)
  have Rx1_19 := Lib.hid (Rx1_18.out.below hb)
  have Rx2_19 := Lib.hid (Rx2_18.out.below hb)
  have Rg0_19 := Lib.hid (Rg0_18.out.below hb)
  have XaS_19 := Lib.hid (XaS_18.out.below hb XaS_18.out.lt)
  have Xx0_19 := Lib.hid (Xx0_18.out.below hb Xx0_18.out.lt)
  obtain ⟨At6, ct6, rfl⟩ := own_slice ho
  have Ut6 := Lib.hid (show ∀ k, blk _ k → _ ∧ _ from fun k hk => ho.lt k hk)
  have Rt6_19 := Lib.hid (own_holds ho)
  clear ho hb
  go_wp2_with fail
  refine (eqIntS_same Ax2 At6 len2 cx2 ct6 z2 _ Inz2.out.len (by unfold maxLen; omega) (Reads.of_own (inow Rx2_19)) (Reads.of_own (inow Rt6_19))).mono ?_
  rintro e w15 ⟨rfl, hb⟩
  have BW20 := Lib.hid (BW19.out.trans (hb.mono BW19.out.size))
  have sz20 : Hid (w14.heap.size ≤ w15.heap.size) := hb.size
  have Rw0_20 := Lib.hid (Rw0_19.out.below hb)
  have Rx0_20 := Lib.hid (Rx0_19.out.below hb)
  have Rx1_20 := Lib.hid (Rx1_19.out.below hb)
  have Rx2_20 := Lib.hid (Rx2_19.out.below hb)
  have Rg0_20 := Lib.hid (Rg0_19.out.below hb)
  have Rt6_20 := Lib.hid (Rt6_19.out.below hb)
  have XaS_20 := Lib.hid (XaS_19.out.below hb XaS_19.out.lt)
  have Xx0_20 := Lib.hid (Xx0_19.out.below hb Xx0_19.out.lt)
  clear hb
  clear Rt6_20 Ut6
  have ex00a : w15.cell? ⟨w5.heap.size, 0, none⟩ = some (.slice Ax0 len0 cx0) := Xx0_20.out.cell 0
  have ex01a : w15.cell? ⟨w5.heap.size, 1, none⟩ = some (.slice Bx0 m0 dx0) := Xx0_20.out.cell 1
  go_wp2_with fail
  clear ex00a ex01a
  refine (markStructure_own _ Ax0 len0 cx0 (1) z0 Bx0 m0 dx0 y0 _ (by omega) (by unfold maxLen; omega) (tnow Rx0_20)).mono ?_
  rintro e w16 ⟨rfl, ho, hW⟩
  have BW21 := Lib.hid (Wrote.below BW20.out hW (fun k hk => Nat.le_trans (Nat.le_trans (Nat.le_of_succ_le sz1.out) (Nat.le_trans sz2.out (Nat.le_trans sz3.out (Nat.le_trans sz4.out (Nat.le_trans sz5.out (Nat.le_trans sz6.out sz7.out)))))) (Ux0.out k hk).1) (Nat.le_trans (Nat.le_of_succ_le sz1.out) (Nat.le_trans sz2.out (Nat.le_trans sz3.out (Nat.le_trans sz4.out (Nat.le_trans sz5.out (Nat.le_trans sz6.out (Nat.le_trans sz7.out (Nat.le_trans sz8.out (Nat.le_trans (Nat.le_of_succ_le sz9.out) (Nat.le_trans sz10.out (Nat.le_trans sz11.out (Nat.le_trans sz12.out (Nat.le_trans sz13.out (Nat.le_trans sz14.out (Nat.le_trans sz15.out (Nat.le_trans sz16.out (Nat.le_trans sz17.out (Nat.le_trans sz18.out (Nat.le_trans sz19.out sz20.out))))))))))))))))))))
  have sz21 : Hid (w15.heap.size ≤ w16.heap.size) := hW.size
  have Rw0_21 := Lib.hid (Rw0_20.out.wrote hW (two_none Uw0 Ux0 (.inl (Nat.le_refl _))))
  have Rx1_21 := Lib.hid (Rx1_20.out.wrote hW (two_none Ux1 Ux0 (.inr (Nat.le_of_succ_le sz9.out))))
  have Rx2_21 := Lib.hid (Rx2_20.out.wrote hW (two_none Ux2 Ux0 (.inr (Nat.le_trans (Nat.le_of_succ_le sz9.out) sz10.out))))
  have Rg0_21 := Lib.hid (Rg0_20.out.wrote hW (two_none Ug0 Ux0 (.inr (Nat.le_trans (Nat.le_of_succ_le sz9.out) (Nat.le_trans sz10.out sz11.out)))))
  have XaS_21 := Lib.hid (XaS_20.out.wrote hW Ux0 (.inl (Nat.lt_of_lt_of_le (Nat.lt_of_succ_le sz1.out) (Nat.le_trans sz2.out (Nat.le_trans sz3.out (Nat.le_trans sz4.out (Nat.le_trans sz5.out (Nat.le_trans sz6.out sz7.out))))))))
  have Xx0_21 := Lib.hid (Xx0_20.out.wrote hW Ux0 (.inr (Nat.le_refl _)))
  have Rx0_21 := Lib.hid ho.holds
  clear ho hW
  clear Rx0_21 Ux0 Xx0_21
  go_wp2_with fail
  refine (markIntSS_own _ Ax1 len1 cx1 (1 + 4 * len0 + 3 * m0) Lx1 mx1 _ Qx1.out (by have := Mx1.out; have := Mx1.out; omega) (iinow Rx1_21) (by omega) FTx1.out).mono ?_
  rintro e w17 ⟨rfl, hW⟩
  have BW22 := Lib.hid (Wrote.below BW21.out hW (fun k hk => Nat.le_trans (Nat.le_trans (Nat.le_of_succ_le sz1.out) (Nat.le_trans sz2.out (Nat.le_trans sz3.out (Nat.le_trans sz4.out (Nat.le_trans sz5.out (Nat.le_trans sz6.out (Nat.le_trans sz7.out (Nat.le_trans sz8.out (Nat.le_of_succ_le sz9.out))))))))) (Ux1.out k hk).1) (Nat.le_trans (Nat.le_of_succ_le sz1.out) (Nat.le_trans sz2.out (Nat.le_trans sz3.out (Nat.le_trans sz4.out (Nat.le_trans sz5.out (Nat.le_trans sz6.out (Nat.le_trans sz7.out (Nat.le_trans sz8.out (Nat.le_trans (Nat.le_of_succ_le sz9.out) (Nat.le_trans sz10.out (Nat.le_trans sz11.out (Nat.le_trans sz12.out (Nat.le_trans sz13.out (Nat.le_trans sz14.out (Nat.le_trans sz15.out (Nat.le_trans sz16.out (Nat.le_trans sz17.out (Nat.le_trans sz18.out (Nat.le_trans sz19.out (Nat.le_trans sz20.out sz21.out)))))))))))))))))))))
  have sz22 : Hid (w16.heap.size ≤ w17.heap.size) := hW.size
  have Rw0_22 := Lib.hid (Rw0_21.out.wrote hW (two_none Uw0 Ux1 (.inl (Nat.le_trans sz8.out (Nat.le_of_succ_le sz9.out)))))
  have Rx2_22 := Lib.hid (Rx2_21.out.wrote hW (two_none Ux2 Ux1 (.inr (Nat.le_refl _))))
  have Rg0_22 := Lib.hid (Rg0_21.out.wrote hW (two_none Ug0 Ux1 (.inr sz11.out)))
  have XaS_22 := Lib.hid (XaS_21.out.wrote hW Ux1 (.inl (Nat.lt_of_lt_of_le (Nat.lt_of_succ_le sz1.out) (Nat.le_trans sz2.out (Nat.le_trans sz3.out (Nat.le_trans sz4.out (Nat.le_trans sz5.out (Nat.le_trans sz6.out (Nat.le_trans sz7.out (Nat.le_trans sz8.out (Nat.le_of_succ_le sz9.out)))))))))))
  have Rx1_22 : Hid True := trivial
  have ho := True
  clear ho hW
  clear Rx1_22 Ux1
  go_wp2_with fail
  refine (markIntS_own _ Ax2 len2 cx2 (1 + 4 * len0 + 3 * m0 + mx1) _ _ (by have := Mx1.out; unfold maxLen; omega) (inow Rx2_22) (ints_are _)).mono ?_
  rintro e w18 ⟨rfl, ho, hg⟩
  have hW := Wrote.of_grown hg
  have BW23 := Lib.hid (Wrote.below BW22.out hW (fun k hk => Nat.le_trans (Nat.le_trans (Nat.le_of_succ_le sz1.out) (Nat.le_trans sz2.out (Nat.le_trans sz3.out (Nat.le_trans sz4.out (Nat.le_trans sz5.out (Nat.le_trans sz6.out (Nat.le_trans sz7.out (Nat.le_trans sz8.out (Nat.le_trans (Nat.le_of_succ_le sz9.out) sz10.out))))))))) (Ux2.out k hk).1) (Nat.le_trans (Nat.le_of_succ_le sz1.out) (Nat.le_trans sz2.out (Nat.le_trans sz3.out (Nat.le_trans sz4.out (Nat.le_trans sz5.out (Nat.le_trans sz6.out (Nat.le_trans sz7.out (Nat.le_trans sz8.out (Nat.le_trans (Nat.le_of_succ_le sz9.out) (Nat.le_trans sz10.out (Nat.le_trans sz11.out (Nat.le_trans sz12.out (Nat.le_trans sz13.out (Nat.le_trans sz14.out (Nat.le_trans sz15.out (Nat.le_trans sz16.out (Nat.le_trans sz17.out (Nat.le_trans sz18.out (Nat.le_trans sz19.out (Nat.le_trans sz20.out (Nat.le_trans sz21.out sz22.out))))))))))))))))))))))
  have sz23 : Hid (w17.heap.size ≤ w18.heap.size) := hW.size
  have Rw0_23 := Lib.hid (Rw0_22.out.wrote hW (two_none Uw0 Ux2 (.inl (Nat.le_trans sz8.out (Nat.le_trans (Nat.le_of_succ_le sz9.out) sz10.out)))))
  have Rg0_23 := Lib.hid (Rg0_22.out.wrote hW (two_none Ug0 Ux2 (.inr (Nat.le_refl _))))
  have XaS_23 := Lib.hid (XaS_22.out.wrote hW Ux2 (.inl (Nat.lt_of_lt_of_le (Nat.lt_of_succ_le sz1.out) (Nat.le_trans sz2.out (Nat.le_trans sz3.out (Nat.le_trans sz4.out (Nat.le_trans sz5.out (Nat.le_trans sz6.out (Nat.le_trans sz7.out (Nat.le_trans sz8.out (Nat.le_trans (Nat.le_of_succ_le sz9.out) sz10.out)))))))))))
  have Rx2_23 := Lib.hid (own_holds ho)
  clear hg
  clear ho hW
  clear Rx2_23 Ux2
  go_wp2_with fail
  refine (eqIntS_same Ag0 Aw0 N0 cg0 cw0 r1_0 _ HN0.out (by unfold maxLen; omega) (Reads.of_own (inow Rg0_23)) (Reads.of_own (inow Rw0_23))).mono ?_
  rintro e w19 ⟨rfl, hb⟩
  have BW24 := Lib.hid (BW23.out.trans (hb.mono BW23.out.size))
  have sz24 : Hid (w18.heap.size ≤ w19.heap.size) := hb.size
  have Rw0_24 := Lib.hid (Rw0_23.out.below hb)
  have Rg0_24 := Lib.hid (Rg0_23.out.below hb)
  have XaS_24 := Lib.hid (XaS_23.out.below hb XaS_23.out.lt)
  clear hb
  go_wp2_with fail
  refine (markIntS_own _ Ag0 N0 cg0 (1) _ _ (by unfold maxLen; omega) (inow Rg0_24) (ints_are _)).mono ?_
  rintro e w20 ⟨rfl, ho, hg⟩
  have hW := Wrote.of_grown hg
  have BW25 := Lib.hid (Wrote.below BW24.out hW (fun k hk => Nat.le_trans (Nat.le_trans (Nat.le_of_succ_le sz1.out) (Nat.le_trans sz2.out (Nat.le_trans sz3.out (Nat.le_trans sz4.out (Nat.le_trans sz5.out (Nat.le_trans sz6.out (Nat.le_trans sz7.out (Nat.le_trans sz8.out (Nat.le_trans (Nat.le_of_succ_le sz9.out) (Nat.le_trans sz10.out sz11.out)))))))))) (Ug0.out k hk).1) (Nat.le_trans (Nat.le_of_succ_le sz1.out) (Nat.le_trans sz2.out (Nat.le_trans sz3.out (Nat.le_trans sz4.out (Nat.le_trans sz5.out (Nat.le_trans sz6.out (Nat.le_trans sz7.out (Nat.le_trans sz8.out (Nat.le_trans (Nat.le_of_succ_le sz9.out) (Nat.le_trans sz10.out (Nat.le_trans sz11.out (Nat.le_trans sz12.out (Nat.le_trans sz13.out (Nat.le_trans sz14.out (Nat.le_trans sz15.out (Nat.le_trans sz16.out (Nat.le_trans sz17.out (Nat.le_trans sz18.out (Nat.le_trans sz19.out (Nat.le_trans sz20.out (Nat.le_trans sz21.out (Nat.le_trans sz22.out (Nat.le_trans sz23.out sz24.out))))))))))))))))))))))))
  have sz25 : Hid (w19.heap.size ≤ w20.heap.size) := hW.size
  have Rw0_25 := Lib.hid (Rw0_24.out.wrote hW (two_none Uw0 Ug0 (.inl (Nat.le_trans sz8.out (Nat.le_trans (Nat.le_of_succ_le sz9.out) (Nat.le_trans sz10.out sz11.out))))))
  have XaS_25 := Lib.hid (XaS_24.out.wrote hW Ug0 (.inl (Nat.lt_of_lt_of_le (Nat.lt_of_succ_le sz1.out) (Nat.le_trans sz2.out (Nat.le_trans sz3.out (Nat.le_trans sz4.out (Nat.le_trans sz5.out (Nat.le_trans sz6.out (Nat.le_trans sz7.out (Nat.le_trans sz8.out (Nat.le_trans (Nat.le_of_succ_le sz9.out) (Nat.le_trans sz10.out sz11.out))))))))))))
  have Rg0_25 := Lib.hid (own_holds ho)
  clear hg
  clear ho hW
  go_wp2_with fail
  refine (heldIntS_same Ag0 N0 cg0 (1) _ (by unfold maxLen; omega) (Reads.of_own (inow Rg0_25))).mono ?_
  rintro e w21 ⟨rfl, hb⟩
  have BW26 := Lib.hid (BW25.out.trans (hb.mono BW25.out.size))
  have sz26 : Hid (w20.heap.size ≤ w21.heap.size) := hb.size
  have Rw0_26 := Lib.hid (Rw0_25.out.below hb)
  have Rg0_26 := Lib.hid (Rg0_25.out.below hb)
  have XaS_26 := Lib.hid (XaS_25.out.below hb XaS_25.out.lt)
  clear hb
  have eaS0a : w21.cell? ⟨w.heap.size, 0, none⟩ = some (.slice a0 len0 cap0) := XaS_26.out.cell 0
  have eaS1a : w21.cell? ⟨w.heap.size, 1, none⟩ = some (.slice b0 m0 d0) := XaS_26.out.cell 1
  go_wp2_with fail
  clear eaS0a eaS1a
  refine (toStructure_any a0 len0 cap0 z0 b0 m0 d0 y0 _ (Inz0.out.below BW26.out)).mono ?_
  rintro e w22 ⟨At7, ct7, Bt7, dt7, rfl, ho, hb⟩
  have BW27 := Lib.hid (BW26.out.trans (hb.mono BW26.out.size))
  have sz27 : Hid (w21.heap.size ≤ w22.heap.size) := hb.size
  have Rw0_27 := Lib.hid (Rw0_26.out.below hb)
  have Rg0_27 := Lib.hid (Rg0_26.out.below hb)
  have XaS_27 := Lib.hid (XaS_26.out.below hb XaS_26.out.lt)
  have Ut7 := Lib.hid ho.lt
  have Rt7_27 := Lib.hid ho.holds
  clear ho hb
  go_wp2_with fail
  refine (toIntSS_any a1 len1 cap1 z1 _ (Inz1.out.below BW27.out)).mono ?_
  rintro e w23 ⟨At8, ct8, Lt8, rfl, ho, hal, hb⟩
  have BW28 := Lib.hid (BW27.out.trans (hb.mono BW27.out.size))
  have sz28 : Hid (w22.heap.size ≤ w23.heap.size) := hb.size
  have Rw0_28 := Lib.hid (Rw0_27.out.below hb)
  have Rg0_28 := Lib.hid (Rg0_27.out.below hb)
  have Rt7_28 := Lib.hid (Rt7_27.out.below hb)
  have XaS_28 := Lib.hid (XaS_27.out.below hb XaS_27.out.lt)
  have Ut8 := Lib.hid ho.lt
  have Rt8_28 := Lib.hid ho.holds
  have ALt8 := Lib.hid hal
  have FTt8 : Hid (RFit Lt8) := Lib.hid (hal.fit Inz1.out.fit)
  obtain ⟨mt8, hmt8⟩ : ∃ m, m = rtot Lt8 := ⟨_, rfl⟩
  have Mt8 : Hid (mt8 = rtot z1) := Lib.hid (by rw [hmt8]; exact hal.tot Inz1.out.fit)
  have Qt8 : Hid (rtot Lt8 = mt8) := hmt8.symm
  clear hmt8
  clear ho hal hb
  go_wp2_with fail
  refine (toIntS_any a2 len2 cap2 z2 _ Inz2.out.len Inz2.out.le (Inz2.out.rd.below BW28.out)).mono ?_
  rintro e w24 ⟨v, rfl, ho, hb⟩
  have BW29 := Lib.hid (BW28.out.trans (hb.mono BW28.out.size))
  have sz29 : Hid (w23.heap.size ≤ w24.heap.size) := hb.size
  have Rw0_29 := Lib.hid (Rw0_28.out.below hb)
  have Rg0_29 := Lib.hid (Rg0_28.out.below hb)
  have Rt7_29 := Lib.hid (Rt7_28.out.below hb)
  have Rt8_29 := Lib.hid (Rt8_28.out.below hb)
  have XaS_29 := Lib.hid (XaS_28.out.below hb XaS_28.out.lt)
  obtain ⟨At9, ct9, rfl⟩ := own_slice ho
  have Ut9 := Lib.hid (show ∀ k, blk _ k → _ ∧ _ from fun k hk => ho.lt k hk)
  have Rt9_29 := Lib.hid (own_holds ho)
  clear ho hb
  go_wp2_with fail
  refine (impl_mixLoads At7 len0 ct7 z0 Bt7 m0 dt7 y0 At8 len1 ct8 Lt8 At9 len2 ct9 z2 _ (tin Rt7_29 Ftz0 (by omega) (by omega)) (iiin Rt8_29 FTt8 (by omega)) (Inz2.out.own (inow Rt9_29))).mono ?_
  rintro e w25 ⟨r3_0, v0, r3_1, rfl, his, h0, hb⟩
  have BW30 := Lib.hid (BW29.out.trans (hb.mono BW29.out.size))
  have sz30 : Hid (w24.heap.size ≤ w25.heap.size) := hb.size
  have Rw0_30 := Lib.hid (Rw0_29.out.below hb)
  have Rg0_30 := Lib.hid (Rg0_29.out.below hb)
  have Rt7_30 := Lib.hid (Rt7_29.out.below hb)
  have Rt8_30 := Lib.hid (Rt8_29.out.below hb)
  have Rt9_30 := Lib.hid (Rt9_29.out.below hb)
  have XaS_30 := Lib.hid (XaS_29.out.below hb XaS_29.out.lt)
  rw [ALt8.out.1] at his
  obtain ⟨rfl, rfl⟩ := mixLoads_unique IS.out his
  clear his
  obtain ⟨_, ho⟩ := h0
  rw [HN0.out] at ho
  obtain ⟨Ah0, ch0, rfl⟩ := own_slice ho
  have Uh0 := Lib.hid (show ∀ k, blk _ k → _ ∧ _ from fun k hk => ho.lt k hk)
  have Rh0_30 := Lib.hid (own_holds ho)
  clear ho
  clear hb
  clear Rt7_30 Ut7
  clear Rt8_30 Ut8
  clear Rt9_30 Ut9
  go_wp2_with fail
  refine (eqIntS_same Ah0 Aw0 N0 ch0 cw0 r1_0 _ HN0.out (by unfold maxLen; omega) (Reads.of_own (inow Rh0_30)) (Reads.of_own (inow Rw0_30))).mono ?_
  rintro e w26 ⟨rfl, hb⟩
  have BW31 := Lib.hid (BW30.out.trans (hb.mono BW30.out.size))
  have sz31 : Hid (w25.heap.size ≤ w26.heap.size) := hb.size
  have Rw0_31 := Lib.hid (Rw0_30.out.below hb)
  have Rg0_31 := Lib.hid (Rg0_30.out.below hb)
  have Rh0_31 := Lib.hid (Rh0_30.out.below hb)
  have XaS_31 := Lib.hid (XaS_30.out.below hb XaS_30.out.lt)
  clear hb
  clear Rw0_31 Uw0
  clear Rh0_31 Uh0
  go_wp2_with fail
  refine (heldIntS_same Ag0 N0 cg0 (1) _ (by unfold maxLen; omega) (Reads.of_own (inow Rg0_31))).mono ?_
  rintro e w27 ⟨rfl, hb⟩
  have BW32 := Lib.hid (BW31.out.trans (hb.mono BW31.out.size))
  have sz32 : Hid (w26.heap.size ≤ w27.heap.size) := hb.size
  have Rg0_32 := Lib.hid (Rg0_31.out.below hb)
  have XaS_32 := Lib.hid (XaS_31.out.below hb XaS_31.out.lt)
  clear hb
  clear Rg0_32 Ug0
  go_wp2_with fail
  go_ret
  exact ⟨rfl, BW32.out⟩
end Go.Proofs.Ytipmeijfmiiedaa.fnExactMixLoads
