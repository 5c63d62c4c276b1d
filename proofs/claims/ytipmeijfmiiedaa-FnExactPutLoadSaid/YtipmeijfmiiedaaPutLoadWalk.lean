/- The walk of the law: for all arguments the law FnExactPutLoad returns true: the program's PutLoad answers as the model's; no condition on them. -/
import Derived.Test.YtipmeijfmiiedaaStM6
import Derived.Test.YtipmeijfmiiedaaLdP
import Derived.ProofKit
import Derived.OpenShut
import Derived.ShutString
import Derived.Lib.SmallJoins
namespace Go.Proofs.Ytipmeijfmiiedaa.fnExactPutLoad
set_option maxRecDepth 100000
open Go.ChangeShapes Go.WideShapes Go.ChangeAt Go.RowKit Go.Joins Go.Deep
open Go.ChangeMaps (open_string shut_string)

set_option maxRecDepth 100000 in
set_option maxHeartbeats 16000000 in
theorem walk {w : World} (a0 : Option Addr) (len0 cap0 : Nat) (z0 : List JD) (hz0 : IsJ w a0 len0 z0) (b0 : Option Addr) (m0 d0 : Nat) (y0 : List MD) (hy0 : IsM w b0 m0 y0) (a1 : Option Addr) (len1 cap1 : Nat) (z1 : List Int) (hz1 : IsInts w a1 len1 z1) (a2 : Int) (ha2 : (Lit.int .i64 a2).wf = true) (a3 : Int) (ha3 : (Lit.int .i64 a3).wf = true) (a4 : Int) (ha4 : (Lit.int .i64 a4).wf = true) :
    Calls Try.prog 6 #[.agg #[.slice a0 len0 cap0, .slice b0 m0 d0], .slice a1 len1 cap1, .int .i64 a2, .int .i64 a3, .int .i64 a4] w fun e w' => e = .returned (.bool true) ∧ Below w.heap.size w w' := by
  have hmz0 : len0 ≤ maxLen := hz0.2.1
  have Hz0 := Lib.hid hz0
  clear hz0
  have hmy0 : m0 ≤ maxLen := hy0.2.1
  have Hy0 := Lib.hid hy0
  clear hy0
  have hmz1 : len1 ≤ maxLen := hz1.2.1
  have Hz1 := Lib.hid hz1
  clear hz1
  have Ba2 := bounds_i64 ha2
  clear ha2
  have Ba3 := bounds_i64 ha3
  clear ha3
  have Ba4 := bounds_i64 ha4
  clear ha4
  have BW0 : Hid (Below w.heap.size w w) := Below.refl _ _
  have BW1 := Lib.hid (BW0.out.alloc BW0.out.size (.cells #[.slice a0 len0 cap0, .slice b0 m0 d0] 44))
  have sz1 : Hid (w.heap.size + 1 ≤ (w.alloc (.cells #[.slice a0 len0 cap0, .slice b0 m0 d0] 44)).heap.size) := Lib.hid (by simp)
  have XaS_1 := Lib.hid (Box.new w 44 #[.slice a0 len0 cap0, .slice b0 m0 d0])
  by_cases biga1 : 1048576 < (len1 : Int)
  · go_enter Try.func6, Try.ntmps6
    go_wp2_with fail
    go_ret
    exact ⟨rfl, BW1.out⟩
  have Inz1 : Hid (InI w a1 len1 z1) := ⟨Hz1.out.1, by omega, Hz1.out.2.2.1, Hz1.out.2.2.2⟩
  go_enter Try.func6, Try.ntmps6
  have eaS0a : (w.alloc (.cells #[.slice a0 len0 cap0, .slice b0 m0 d0] 44)).cell? ⟨w.heap.size, 0, none⟩ = some (.slice a0 len0 cap0) := XaS_1.out.cell 0
  have eaS1a : (w.alloc (.cells #[.slice a0 len0 cap0, .slice b0 m0 d0] 44)).cell? ⟨w.heap.size, 1, none⟩ = some (.slice b0 m0 d0) := XaS_1.out.cell 1
  go_wp2_with fail
  clear eaS0a eaS1a
  refine (szStructure_any a0 len0 cap0 z0 b0 m0 d0 (1048576 : Int) _ (Hz0.out.below BW1.out) hmy0 (by omega) (by omega)).mono ?_
  rintro e ws0 ⟨lf0, rfl, hr, hb⟩
  have BW2 := Lib.hid (BW1.out.trans (hb.mono BW1.out.size))
  have sz2 : Hid ((w.alloc (.cells #[.slice a0 len0 cap0, .slice b0 m0 d0] 44)).heap.size ≤ ws0.heap.size) := hb.size
  have XaS_2 := Lib.hid (XaS_1.out.below hb XaS_1.out.lt)
  clear hb
  rcases hr with rfl | ⟨h0, hr⟩
  · go_wp2_with fail
    go_ret
    exact ⟨rfl, BW2.out⟩
  have lb0 : 0 ≤ lf0 ∧ lf0 ≤ 1048576 := by omega
  have ls0 : lf0 + ((len0 : Int) + jtot z0 + m0) = (1048576 : Int) := by omega
  have HLS0 := Lib.hid ls0
  have lt0 : len0 + jtot z0 + m0 ≤ 1048576 := by omega
  clear ls0 hr
  have h00 := h0
  clear h0
  have Inz0 : Hid (InT w a0 len0 z0 b0 m0 y0) := ⟨Hz0.out.inJ (by omega), Hy0.out.inM (by omega)⟩
  have Ftz0 : Hid (TFit len0 z0 m0 y0) := ⟨Inz0.out.1.1, Inz0.out.2.1, Inz0.out.1.2.2.2, Inz0.out.2.2.2.2⟩
  have eaS0a : ws0.cell? ⟨w.heap.size, 0, none⟩ = some (.slice a0 len0 cap0) := XaS_2.out.cell 0
  have eaS1a : ws0.cell? ⟨w.heap.size, 1, none⟩ = some (.slice b0 m0 d0) := XaS_2.out.cell 1
  go_wp2_with fail
  clear eaS0a eaS1a
  refine (toStructure_any a0 len0 cap0 z0 b0 m0 d0 y0 _ (Inz0.out.below BW2.out)).mono ?_
  rintro e w1 ⟨At1, ct1, Bt1, dt1, rfl, ho, hb⟩
  have BW3 := Lib.hid (BW2.out.trans (hb.mono BW2.out.size))
  have sz3 : Hid (ws0.heap.size ≤ w1.heap.size) := hb.size
  have XaS_3 := Lib.hid (XaS_2.out.below hb XaS_2.out.lt)
  have Ut1 := Lib.hid ho.lt
  have Rt1_3 := Lib.hid ho.holds
  clear ho hb
  go_wp2_with fail
  refine (toIntS_any a1 len1 cap1 z1 _ Inz1.out.len Inz1.out.le (Inz1.out.rd.below BW3.out)).mono ?_
  rintro e w2 ⟨v, rfl, ho, hb⟩
  have BW4 := Lib.hid (BW3.out.trans (hb.mono BW3.out.size))
  have sz4 : Hid (w1.heap.size ≤ w2.heap.size) := hb.size
  have Rt1_4 := Lib.hid (Rt1_3.out.below hb)
  have XaS_4 := Lib.hid (XaS_3.out.below hb XaS_3.out.lt)
  obtain ⟨At2, ct2, rfl⟩ := own_slice ho
  have Ut2 := Lib.hid (show ∀ k, blk _ k → _ ∧ _ from fun k hk => ho.lt k hk)
  have Rt2_4 := Lib.hid (own_holds ho)
  clear ho hb
  go_wp2_with fail
  refine (spec_putLoad At1 len0 ct1 z0 Bt1 m0 dt1 y0 At2 len1 ct2 z1 a2 a3 a4 _ (tin Rt1_4 Ftz0 (by omega) (by omega)) (Inz1.out.own (inow Rt2_4)) Ba2 Ba3 Ba4).mono ?_
  rintro e w3 ⟨r1_0, v0, r1_1, rfl, his, h0, hb⟩
  have BW5 := Lib.hid (BW4.out.trans (hb.mono BW4.out.size))
  have sz5 : Hid (w2.heap.size ≤ w3.heap.size) := hb.size
  have Rt1_5 := Lib.hid (Rt1_4.out.below hb)
  have Rt2_5 := Lib.hid (Rt2_4.out.below hb)
  have XaS_5 := Lib.hid (XaS_4.out.below hb XaS_4.out.lt)
  have IS := Lib.hid his
  clear his
  obtain ⟨hl, ho⟩ := h0
  obtain ⟨N0, hN⟩ : ∃ N, N = r1_0.length := ⟨_, rfl⟩
  rw [← hN] at hl ho
  have HN0 : Hid (r1_0.length = N0) := hN.symm
  have hl0 := hl
  clear hN hl
  obtain ⟨Aw0, cw0, rfl⟩ := own_slice ho
  have Uw0 := Lib.hid (show ∀ k, blk _ k → _ ∧ _ from fun k hk => ho.lt k hk)
  have Rw0_5 := Lib.hid (own_holds ho)
  clear ho
  clear hb
  clear Rt1_5 Ut1
  clear Rt2_5 Ut2
  have eaS0a : w3.cell? ⟨w.heap.size, 0, none⟩ = some (.slice a0 len0 cap0) := XaS_5.out.cell 0
  have eaS1a : w3.cell? ⟨w.heap.size, 1, none⟩ = some (.slice b0 m0 d0) := XaS_5.out.cell 1
  go_wp2_with fail
  clear eaS0a eaS1a
  refine (toStructure_any a0 len0 cap0 z0 b0 m0 d0 y0 _ (Inz0.out.below BW5.out)).mono ?_
  rintro e w4 ⟨Ax0, cx0, Bx0, dx0, rfl, ho, hb⟩
  have BW6 := Lib.hid (BW5.out.trans (hb.mono BW5.out.size))
  have sz6 : Hid (w3.heap.size ≤ w4.heap.size) := hb.size
  have Rw0_6 := Lib.hid (Rw0_5.out.below hb)
  have XaS_6 := Lib.hid (XaS_5.out.below hb XaS_5.out.lt)
  have Ux0 := Lib.hid ho.lt
  have Rx0_6 := Lib.hid ho.holds
  clear ho hb
  have BW7 := Lib.hid (BW6.out.alloc BW6.out.size (.cells #[.slice Ax0 len0 cx0, .slice Bx0 m0 dx0] 26))
  have sz7 : Hid (w4.heap.size + 1 ≤ (w4.alloc (.cells #[.slice Ax0 len0 cx0, .slice Bx0 m0 dx0] 26)).heap.size) := Lib.hid (by simp)
  have Rw0_7 := Lib.hid (Rw0_6.out.alloc (.cells #[.slice Ax0 len0 cx0, .slice Bx0 m0 dx0] 26))
  have Rx0_7 := Lib.hid (Rx0_6.out.alloc (.cells #[.slice Ax0 len0 cx0, .slice Bx0 m0 dx0] 26))
  have XaS_7 := Lib.hid (XaS_6.out.alloc (.cells #[.slice Ax0 len0 cx0, .slice Bx0 m0 dx0] 26))
  have Xx0_7 := Lib.hid (Box.new w4 26 #[.slice Ax0 len0 cx0, .slice Bx0 m0 dx0])
  go_wp2_with fail
  refine (toIntS_any a1 len1 cap1 z1 _ Inz1.out.len Inz1.out.le (Inz1.out.rd.below BW7.out)).mono ?_
  rintro e w5 ⟨v, rfl, ho, hb⟩
  have BW8 := Lib.hid (BW7.out.trans (hb.mono BW7.out.size))
  have sz8 : Hid ((w4.alloc (.cells #[.slice Ax0 len0 cx0, .slice Bx0 m0 dx0] 26)).heap.size ≤ w5.heap.size) := hb.size
  have Rw0_8 := Lib.hid (Rw0_7.out.below hb)
  have Rx0_8 := Lib.hid (Rx0_7.out.below hb)
  have XaS_8 := Lib.hid (XaS_7.out.below hb XaS_7.out.lt)
  have Xx0_8 := Lib.hid (Xx0_7.out.below hb Xx0_7.out.lt)
  obtain ⟨Ax1, cx1, rfl⟩ := own_slice ho
  have Ux1 := Lib.hid (show ∀ k, blk _ k → _ ∧ _ from fun k hk => ho.lt k hk)
  have Rx1_8 := Lib.hid (own_holds ho)
  clear ho hb
  have ex00a : w5.cell? ⟨w4.heap.size, 0, none⟩ = some (.slice Ax0 len0 cx0) := Xx0_8.out.cell 0
  have ex01a : w5.cell? ⟨w4.heap.size, 1, none⟩ = some (.slice Bx0 m0 dx0) := Xx0_8.out.cell 1
  go_wp2_with fail
  clear ex00a ex01a
  refine (impl_putLoad Ax0 len0 cx0 z0 Bx0 m0 dx0 y0 Ax1 len1 cx1 z1 a2 a3 a4 _ (tin Rx0_8 Ftz0 (by omega) (by omega)) (Inz1.out.own (inow Rx1_8)) Ba2 Ba3 Ba4).mono ?_
  rintro e w6 ⟨r2_0, v0, r2_1, rfl, his, h0, hb⟩
  have BW9 := Lib.hid (BW8.out.trans (hb.mono BW8.out.size))
  have sz9 : Hid (w5.heap.size ≤ w6.heap.size) := hb.size
  have Rw0_9 := Lib.hid (Rw0_8.out.below hb)
  have Rx0_9 := Lib.hid (Rx0_8.out.below hb)
  have Rx1_9 := Lib.hid (Rx1_8.out.below hb)
  have XaS_9 := Lib.hid (XaS_8.out.below hb XaS_8.out.lt)
  have Xx0_9 := Lib.hid (Xx0_8.out.below hb Xx0_8.out.lt)
  obtain ⟨rfl, rfl⟩ := putLoad_unique IS.out his
  clear his
  obtain ⟨_, ho⟩ := h0
  rw [HN0.out] at ho
  obtain ⟨Ag0, cg0, rfl⟩ := own_slice ho
  have Ug0 := Lib.hid (show ∀ k, blk _ k → _ ∧ _ from fun k hk => ho.lt k hk)
  have Rg0_9 := Lib.hid (own_holds ho)
  clear ho
  clear hb
  go_wp2_with fail
  refine (eqIntS_same Ag0 Aw0 N0 cg0 cw0 r1_0 _ HN0.out (by unfold maxLen; omega) (Reads.of_own (inow Rg0_9)) (Reads.of_own (inow Rw0_9))).mono ?_
  rintro e w7 ⟨rfl, hb⟩
  have BW10 := Lib.hid (BW9.out.trans (hb.mono BW9.out.size))
  have sz10 : Hid (w6.heap.size ≤ w7.heap.size) := hb.size
  have Rw0_10 := Lib.hid (Rw0_9.out.below hb)
  have Rx0_10 := Lib.hid (Rx0_9.out.below hb)
  have Rx1_10 := Lib.hid (Rx1_9.out.below hb)
  have Rg0_10 := Lib.hid (Rg0_9.out.below hb)
  have XaS_10 := Lib.hid (XaS_9.out.below hb XaS_9.out.lt)
  have Xx0_10 := Lib.hid (Xx0_9.out.below hb Xx0_9.out.lt)
  clear hb
  go_wp2_with fail
  have BW11 := Lib.hid BW10.out.drew
  have sz11 : Hid (w7.heap.size ≤ w7.drew.heap.size) := Nat.le_refl _
  have Rw0_11 := Lib.hid Rw0_10.out.drew
  have Rx0_11 := Lib.hid Rx0_10.out.drew
  have Rx1_11 := Lib.hid Rx1_10.out.drew
  have Rg0_11 := Lib.hid Rg0_10.out.drew
  have XaS_11 := Lib.hid XaS_10.out.drew
  have Xx0_11 := Lib.hid Xx0_10.out.drew
  have cvx00 : Hid ((#[.slice Ax0 len0 cx0, .slice Bx0 m0 dx0] : Array Value)[0]? = some (.slice Ax0 len0 cx0)) := rfl
  have cvx01 : Hid ((#[.slice Ax0 len0 cx0, .slice Bx0 m0 dx0] : Array Value)[1]? = some (.slice Bx0 m0 dx0)) := rfl
  have cvaS0 : Hid ((#[.slice a0 len0 cap0, .slice b0 m0 d0] : Array Value)[0]? = some (.slice a0 len0 cap0)) := rfl
  have cvaS1 : Hid ((#[.slice a0 len0 cap0, .slice b0 m0 d0] : Array Value)[1]? = some (.slice b0 m0 d0)) := rfl
  go_region_held3 (fun w' => w'.cell? ⟨w4.heap.size, 0, none⟩ = some (.slice Ax0 len0 cx0) ∧ w'.cell? ⟨w4.heap.size, 1, none⟩ = some (.slice Bx0 m0 dx0) ∧ w'.cell? ⟨w.heap.size, 0, none⟩ = some (.slice a0 len0 cap0) ∧ w'.cell? ⟨w.heap.size, 1, none⟩ = some (.slice b0 m0 d0)) (first | with_reducible exact ⟨cellS Xx0_13 cvx00, cellS Xx0_13 cvx01, cellS XaS_13 cvaS0, cellS XaS_13 cvaS1⟩ | with_reducible exact ⟨cellS Xx0_12 cvx00, cellS Xx0_12 cvx01, cellS XaS_12 cvaS0, cellS XaS_12 cvaS1⟩ | with_reducible exact ⟨cellS Xx0_11 cvx00, cellS Xx0_11 cvx01, cellS XaS_11 cvaS0, cellS XaS_11 cvaS1⟩) (first | (go_at_call 24; refine (eqStructure_same Ax0 At3 len0 cx0 ct3 z0 Bx0 Bt3 m0 dx0 dt3 y0 _ (tin Rx0_12 Ftz0 (by omega) (by omega)) (tin Rt3_12 Ftz0 (by omega) (by omega))).mono ?_; rintro e w9 ⟨rfl, hb⟩; have BW13 := Lib.hid (BW12.out.trans (hb.mono BW12.out.size)); have sz13 : Hid (w8.heap.size ≤ w9.heap.size) := hb.size; have Rw0_13 := Lib.hid (Rw0_12.out.below hb); have Rx0_13 := Lib.hid (Rx0_12.out.below hb); have Rx1_13 := Lib.hid (Rx1_12.out.below hb); have Rg0_13 := Lib.hid (Rg0_12.out.below hb); have Rt3_13 := Lib.hid (Rt3_12.out.below hb); have XaS_13 := Lib.hid (XaS_12.out.below hb XaS_12.out.lt); have Xx0_13 := Lib.hid (Xx0_12.out.below hb Xx0_12.out.lt); clear hb) | (go_at_call 21; refine (toStructure_any a0 len0 cap0 z0 b0 m0 d0 y0 _ (Inz0.out.below BW11.out)).mono ?_; rintro e w8 ⟨At3, ct3, Bt3, dt3, rfl, ho, hb⟩; have BW12 := Lib.hid (BW11.out.trans (hb.mono BW11.out.size)); have sz12 : Hid (w7.drew.heap.size ≤ w8.heap.size) := hb.size; have Rw0_12 := Lib.hid (Rw0_11.out.below hb); have Rx0_12 := Lib.hid (Rx0_11.out.below hb); have Rx1_12 := Lib.hid (Rx1_11.out.below hb); have Rg0_12 := Lib.hid (Rg0_11.out.below hb); have XaS_12 := Lib.hid (XaS_11.out.below hb XaS_11.out.lt); have Xx0_12 := Lib.hid (Xx0_11.out.below hb Xx0_11.out.lt); have Ut3 := Lib.hid ho.lt; have Rt3_12 := Lib.hid ho.holds; clear ho hb))
  clear cvx00 cvx01 cvaS0 cvaS1
  clear Rt3_13 Ut3
  go_wp2_with fail
  refine (toIntS_any a1 len1 cap1 z1 _ Inz1.out.len Inz1.out.le (Inz1.out.rd.below BW13.out)).mono ?_
  rintro e w10 ⟨v, rfl, ho, hb⟩
  have BW14 := Lib.hid (BW13.out.trans (hb.mono BW13.out.size))
  have sz14 : Hid (w9.heap.size ≤ w10.heap.size) := hb.size
  have Rw0_14 := Lib.hid (Rw0_13.out.below hb)
  have Rx0_14 := Lib.hid (Rx0_13.out.below hb)
  have Rx1_14 := Lib.hid (Rx1_13.out.below hb)
  have Rg0_14 := Lib.hid (Rg0_13.out.below hb)
  have XaS_14 := Lib.hid (XaS_13.out.below hb XaS_13.out.lt)
  have Xx0_14 := Lib.hid (Xx0_13.out.below hb Xx0_13.out.lt)
  obtain ⟨At4, ct4, rfl⟩ := own_slice ho
  have Ut4 := Lib.hid (show ∀ k, blk _ k → _ ∧ _ from fun k hk => ho.lt k hk)
  have Rt4_14 := Lib.hid (own_holds ho)
  clear ho hb
  go_wp2_with fail
  refine (eqIntS_same Ax1 At4 len1 cx1 ct4 z1 _ Inz1.out.len (by unfold maxLen; omega) (Reads.of_own (inow Rx1_14)) (Reads.of_own (inow Rt4_14))).mono ?_
  rintro e w11 ⟨rfl, hb⟩
  have BW15 := Lib.hid (BW14.out.trans (hb.mono BW14.out.size))
  have sz15 : Hid (w10.heap.size ≤ w11.heap.size) := hb.size
  have Rw0_15 := Lib.hid (Rw0_14.out.below hb)
  have Rx0_15 := Lib.hid (Rx0_14.out.below hb)
  have Rx1_15 := Lib.hid (Rx1_14.out.below hb)
  have Rg0_15 := Lib.hid (Rg0_14.out.below hb)
  have Rt4_15 := Lib.hid (Rt4_14.out.below hb)
  have XaS_15 := Lib.hid (XaS_14.out.below hb XaS_14.out.lt)
  have Xx0_15 := Lib.hid (Xx0_14.out.below hb Xx0_14.out.lt)
  clear hb
  clear Rt4_15 Ut4
  have ex00a : w11.cell? ⟨w4.heap.size, 0, none⟩ = some (.slice Ax0 len0 cx0) := Xx0_15.out.cell 0
  have ex01a : w11.cell? ⟨w4.heap.size, 1, none⟩ = some (.slice Bx0 m0 dx0) := Xx0_15.out.cell 1
  go_wp2_with fail
  clear ex00a ex01a
  refine (markStructure_own _ Ax0 len0 cx0 (1) z0 Bx0 m0 dx0 y0 _ (by omega) (by unfold maxLen; omega) (tnow Rx0_15)).mono ?_
  rintro e w12 ⟨rfl, ho, hW⟩
  have BW16 := Lib.hid (Wrote.below BW15.out hW (fun k hk => Nat.le_trans (Nat.le_trans (Nat.le_of_succ_le sz1.out) (Nat.le_trans sz2.out (Nat.le_trans sz3.out (Nat.le_trans sz4.out sz5.out)))) (Ux0.out k hk).1) (Nat.le_trans (Nat.le_of_succ_le sz1.out) (Nat.le_trans sz2.out (Nat.le_trans sz3.out (Nat.le_trans sz4.out (Nat.le_trans sz5.out (Nat.le_trans sz6.out (Nat.le_trans (Nat.le_of_succ_le sz7.out) (Nat.le_trans sz8.out (Nat.le_trans sz9.out (Nat.le_trans sz10.out (Nat.le_trans sz11.out (Nat.le_trans sz12.out (Nat.le_trans sz13.out (Nat.le_trans sz14.out sz15.out)))))))))))))))
  have sz16 : Hid (w11.heap.size ≤ w12.heap.size) := hW.size
  have Rw0_16 := Lib.hid (Rw0_15.out.wrote hW (two_none Uw0 Ux0 (.inl (Nat.le_refl _))))
  have Rx1_16 := Lib.hid (Rx1_15.out.wrote hW (two_none Ux1 Ux0 (.inr (Nat.le_of_succ_le sz7.out))))
  have Rg0_16 := Lib.hid (Rg0_15.out.wrote hW (two_none Ug0 Ux0 (.inr (Nat.le_trans (Nat.le_of_succ_le sz7.out) sz8.out))))
  have XaS_16 := Lib.hid (XaS_15.out.wrote hW Ux0 (.inl (Nat.lt_of_lt_of_le (Nat.lt_of_succ_le sz1.out) (Nat.le_trans sz2.out (Nat.le_trans sz3.out (Nat.le_trans sz4.out sz5.out))))))
  have Xx0_16 := Lib.hid (Xx0_15.out.wrote hW Ux0 (.inr (Nat.le_refl _)))
  have Rx0_16 := Lib.hid ho.holds
  clear ho hW
  clear Rx0_16 Ux0 Xx0_16
  go_wp2_with fail
  refine (markIntS_own _ Ax1 len1 cx1 (1 + 4 * len0 + 3 * m0) _ _ (by unfold maxLen; omega) (inow Rx1_16) (ints_are _)).mono ?_
  rintro e w13 ⟨rfl, ho, hg⟩
  have hW := Wrote.of_grown hg
  have BW17 := Lib.hid (Wrote.below BW16.out hW (fun k hk => Nat.le_trans (Nat.le_trans (Nat.le_of_succ_le sz1.out) (Nat.le_trans sz2.out (Nat.le_trans sz3.out (Nat.le_trans sz4.out (Nat.le_trans sz5.out (Nat.le_trans sz6.out (Nat.le_of_succ_le sz7.out))))))) (Ux1.out k hk).1) (Nat.le_trans (Nat.le_of_succ_le sz1.out) (Nat.le_trans sz2.out (Nat.le_trans sz3.out (Nat.le_trans sz4.out (Nat.le_trans sz5.out (Nat.le_trans sz6.out (Nat.le_trans (Nat.le_of_succ_le sz7.out) (Nat.le_trans sz8.out (Nat.le_trans sz9.out (Nat.le_trans sz10.out (Nat.le_trans sz11.out (Nat.le_trans sz12.out (Nat.le_trans sz13.out (Nat.le_trans sz14.out (Nat.le_trans sz15.out sz16.out))))))))))))))))
  have sz17 : Hid (w12.heap.size ≤ w13.heap.size) := hW.size
  have Rw0_17 := Lib.hid (Rw0_16.out.wrote hW (two_none Uw0 Ux1 (.inl (Nat.le_trans sz6.out (Nat.le_of_succ_le sz7.out)))))
  have Rg0_17 := Lib.hid (Rg0_16.out.wrote hW (two_none Ug0 Ux1 (.inr (Nat.le_refl _))))
  have XaS_17 := Lib.hid (XaS_16.out.wrote hW Ux1 (.inl (Nat.lt_of_lt_of_le (Nat.lt_of_succ_le sz1.out) (Nat.le_trans sz2.out (Nat.le_trans sz3.out (Nat.le_trans sz4.out (Nat.le_trans sz5.out (Nat.le_trans sz6.out (Nat.le_of_succ_le sz7.out)))))))))
  have Rx1_17 := Lib.hid (own_holds ho)
  clear hg
  clear ho hW
  clear Rx1_17 Ux1
  go_wp2_with fail
  refine (eqIntS_same Ag0 Aw0 N0 cg0 cw0 r1_0 _ HN0.out (by unfold maxLen; omega) (Reads.of_own (inow Rg0_17)) (Reads.of_own (inow Rw0_17))).mono ?_
  rintro e w14 ⟨rfl, hb⟩
  have BW18 := Lib.hid (BW17.out.trans (hb.mono BW17.out.size))
  have sz18 : Hid (w13.heap.size ≤ w14.heap.size) := hb.size
  have Rw0_18 := Lib.hid (Rw0_17.out.below hb)
  have Rg0_18 := Lib.hid (Rg0_17.out.below hb)
  have XaS_18 := Lib.hid (XaS_17.out.below hb XaS_17.out.lt)
  clear hb
  go_wp2_with fail
  refine (markIntS_own _ Ag0 N0 cg0 (1) _ _ (by unfold maxLen; omega) (inow Rg0_18) (ints_are _)).mono ?_
  rintro e w15 ⟨rfl, ho, hg⟩
  have hW := Wrote.of_grown hg
  have BW19 := Lib.hid (Wrote.below BW18.out hW (fun k hk => Nat.le_trans (Nat.le_trans (Nat.le_of_succ_le sz1.out) (Nat.le_trans sz2.out (Nat.le_trans sz3.out (Nat.le_trans sz4.out (Nat.le_trans sz5.out (Nat.le_trans sz6.out (Nat.le_trans (Nat.le_of_succ_le sz7.out) sz8.out))))))) (Ug0.out k hk).1) (Nat.le_trans (Nat.le_of_succ_le sz1.out) (Nat.le_trans sz2.out (Nat.le_trans sz3.out (Nat.le_trans sz4.out (Nat.le_trans sz5.out (Nat.le_trans sz6.out (Nat.le_trans (Nat.le_of_succ_le sz7.out) (Nat.le_trans sz8.out (Nat.le_trans sz9.out (Nat.le_trans sz10.out (Nat.le_trans sz11.out (Nat.le_trans sz12.out (Nat.le_trans sz13.out (Nat.le_trans sz14.out (Nat.le_trans sz15.out (Nat.le_trans sz16.out (Nat.le_trans sz17.out sz18.out))))))))))))))))))
  have sz19 : Hid (w14.heap.size ≤ w15.heap.size) := hW.size
  have Rw0_19 := Lib.hid (Rw0_18.out.wrote hW (two_none Uw0 Ug0 (.inl (Nat.le_trans sz6.out (Nat.le_trans (Nat.le_of_succ_le sz7.out) sz8.out)))))
  have XaS_19 := Lib.hid (XaS_18.out.wrote hW Ug0 (.inl (Nat.lt_of_lt_of_le (Nat.lt_of_succ_le sz1.out) (Nat.le_trans sz2.out (Nat.le_trans sz3.out (Nat.le_trans sz4.out (Nat.le_trans sz5.out (Nat.le_trans sz6.out (Nat.le_trans (Nat.le_of_succ_le sz7.out) sz8.out)))))))))
  have Rg0_19 := Lib.hid (own_holds ho)
  clear hg
  clear ho hW
  go_wp2_with fail
  refine (heldIntS_same Ag0 N0 cg0 (1) _ (by unfold maxLen; omega) (Reads.of_own (inow Rg0_19))).mono ?_
  rintro e w16 ⟨rfl, hb⟩
  have BW20 := Lib.hid (BW19.out.trans (hb.mono BW19.out.size))
  have sz20 : Hid (w15.heap.size ≤ w16.heap.size) := hb.size
  have Rw0_20 := Lib.hid (Rw0_19.out.below hb)
  have Rg0_20 := Lib.hid (Rg0_19.out.below hb)
  have XaS_20 := Lib.hid (XaS_19.out.below hb XaS_19.out.lt)
  clear hb
  have eaS0a : w16.cell? ⟨w.heap.size, 0, none⟩ = some (.slice a0 len0 cap0) := XaS_20.out.cell 0
  have eaS1a : w16.cell? ⟨w.heap.size, 1, none⟩ = some (.slice b0 m0 d0) := XaS_20.out.cell 1
  go_wp2_with fail
  clear eaS0a eaS1a
  refine (toStructure_any a0 len0 cap0 z0 b0 m0 d0 y0 _ (Inz0.out.below BW20.out)).mono ?_
  rintro e w17 ⟨At5, ct5, Bt5, dt5, rfl, ho, hb⟩
  have BW21 := Lib.hid (BW20.out.trans (hb.mono BW20.out.size))
  have sz21 : Hid (w16.heap.size ≤ w17.heap.size) := hb.size
  have Rw0_21 := Lib.hid (Rw0_20.out.below hb)
  have Rg0_21 := Lib.hid (Rg0_20.out.below hb)
  have XaS_21 := Lib.hid (XaS_20.out.below hb XaS_20.out.lt)
  have Ut5 := Lib.hid ho.lt
  have Rt5_21 := Lib.hid ho.holds
  clear ho hb
  go_wp2_with fail
  refine (toIntS_any a1 len1 cap1 z1 _ Inz1.out.len Inz1.out.le (Inz1.out.rd.below BW21.out)).mono ?_
  rintro e w18 ⟨v, rfl, ho, hb⟩
  have BW22 := Lib.hid (BW21.out.trans (hb.mono BW21.out.size))
  have sz22 : Hid (w17.heap.size ≤ w18.heap.size) := hb.size
  have Rw0_22 := Lib.hid (Rw0_21.out.below hb)
  have Rg0_22 := Lib.hid (Rg0_21.out.below hb)
  have Rt5_22 := Lib.hid (Rt5_21.out.below hb)
  have XaS_22 := Lib.hid (XaS_21.out.below hb XaS_21.out.lt)
  obtain ⟨At6, ct6, rfl⟩ := own_slice ho
  have Ut6 := Lib.hid (show ∀ k, blk _ k → _ ∧ _ from fun k hk => ho.lt k hk)
  have Rt6_22 := Lib.hid (own_holds ho)
  clear ho hb
  go_wp2_with fail
  refine (impl_putLoad At5 len0 ct5 z0 Bt5 m0 dt5 y0 At6 len1 ct6 z1 a2 a3 a4 _ (tin Rt5_22 Ftz0 (by omega) (by omega)) (Inz1.out.own (inow Rt6_22)) Ba2 Ba3 Ba4).mono ?_
  rintro e w19 ⟨r3_0, v0, r3_1, rfl, his, h0, hb⟩
  have BW23 := Lib.hid (BW22.out.trans (hb.mono BW22.out.size))
  have sz23 : Hid (w18.heap.size ≤ w19.heap.size) := hb.size
  have Rw0_23 := Lib.hid (Rw0_22.out.below hb)
  have Rg0_23 := Lib.hid (Rg0_22.out.below hb)
  have Rt5_23 := Lib.hid (Rt5_22.out.below hb)
  have Rt6_23 := Lib.hid (Rt6_22.out.below hb)
  have XaS_23 := Lib.hid (XaS_22.out.below hb XaS_22.out.lt)
  obtain ⟨rfl, rfl⟩ := putLoad_unique IS.out his
  clear his
  obtain ⟨_, ho⟩ := h0
  rw [HN0.out] at ho
  obtain ⟨Ah0, ch0, rfl⟩ := own_slice ho
  have Uh0 := Lib.hid (show ∀ k, blk _ k → _ ∧ _ from fun k hk => ho.lt k hk)
  have Rh0_23 := Lib.hid (own_holds ho)
  clear ho
  clear hb
  clear Rt5_23 Ut5
  clear Rt6_23 Ut6
  go_wp2_with fail
  refine (eqIntS_same Ah0 Aw0 N0 ch0 cw0 r1_0 _ HN0.out (by unfold maxLen; omega) (Reads.of_own (inow Rh0_23)) (Reads.of_own (inow Rw0_23))).mono ?_
  rintro e w20 ⟨rfl, hb⟩
  have BW24 := Lib.hid (BW23.out.trans (hb.mono BW23.out.size))
  have sz24 : Hid (w19.heap.size ≤ w20.heap.size) := hb.size
  have Rw0_24 := Lib.hid (Rw0_23.out.below hb)
  have Rg0_24 := Lib.hid (Rg0_23.out.below hb)
  have Rh0_24 := Lib.hid (Rh0_23.out.below hb)
  have XaS_24 := Lib.hid (XaS_23.out.below hb XaS_23.out.lt)
  clear hb
  clear Rw0_24 Uw0
  clear Rh0_24 Uh0
  go_wp2_with fail
  refine (heldIntS_same Ag0 N0 cg0 (1) _ (by unfold maxLen; omega) (Reads.of_own (inow Rg0_24))).mono ?_
  rintro e w21 ⟨rfl, hb⟩
  have BW25 := Lib.hid (BW24.out.trans (hb.mono BW24.out.size))
  have sz25 : Hid (w20.heap.size ≤ w21.heap.size) := hb.size
  have Rg0_25 := Lib.hid (Rg0_24.out.below hb)
  have XaS_25 := Lib.hid (XaS_24.out.below hb XaS_24.out.lt)
  clear hb
  clear Rg0_25 Ug0
  go_wp2_with fail
  go_ret
  exact ⟨rfl, BW25.out⟩
end Go.Proofs.Ytipmeijfmiiedaa.fnExactPutLoad
