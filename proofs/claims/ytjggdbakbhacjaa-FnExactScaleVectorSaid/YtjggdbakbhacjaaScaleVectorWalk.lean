/- The walk of the law: for all arguments the law FnExactScaleVector returns true: the program's ScaleVector answers as the model's; no condition on them. -/
import Derived.Test.YtjggdbakbhacjaaGV
import Derived.Test.YtjggdbakbhacjaaVecC
import Derived.Test.YtjggdbakbhacjaaVecC2
import Derived.ProofKit
import Derived.OpenShut
import Derived.ShutString
import Derived.Lib.SmallJoins
namespace Go.Proofs.Ytjggdbakbhacjaa.fnExactScaleVector
set_option maxRecDepth 100000
open Go.ChangeShapes Go.WideShapes Go.ChangeAt Go.RowKit Go.Joins Go.Deep
open Go.ChangeMaps (open_string shut_string)

set_option maxRecDepth 100000 in
set_option maxHeartbeats 16000000 in
theorem walk {w : World} (g0 : Bool) (a0 : Option Addr) (len0 cap0 : Nat) (z0 : List Int) (hz0 : IsInts w a0 len0 z0) (b0 : Option Addr) (m0 d0 : Nat) (y0 : List Int) (hy0 : IsInts w b0 m0 y0) (a1 : Option Addr) (len1 cap1 : Nat) (z1 : List RD) (hz1 : IsV w a1 len1 z1) :
    Calls Try.prog 9 #[.agg #[.bool g0, .slice a0 len0 cap0, .slice b0 m0 d0], .slice a1 len1 cap1] w fun e w' => e = .returned (.bool true) ∧ Below w.heap.size w w' := by
  have hmz0 : len0 ≤ maxLen := hz0.2.1
  have Hz0 := Lib.hid hz0
  clear hz0
  have hmy0 : m0 ≤ maxLen := hy0.2.1
  have Hy0 := Lib.hid hy0
  clear hy0
  have hmz1 : len1 ≤ maxLen := hz1.2.1
  have Hz1 := Lib.hid hz1
  clear hz1
  have BW0 : Hid (Below w.heap.size w w) := Below.refl _ _
  have BW1 := Lib.hid (BW0.out.alloc BW0.out.size (.cells #[.bool g0, .slice a0 len0 cap0, .slice b0 m0 d0] 49))
  have sz1 : w.heap.size + 1 ≤ (w.alloc (.cells #[.bool g0, .slice a0 len0 cap0, .slice b0 m0 d0] 49)).heap.size := (by simp)
  have XaR_1 := Lib.hid (Box.new w 49 #[.bool g0, .slice a0 len0 cap0, .slice b0 m0 d0])
  go_enter Try.func9, Try.ntmps9
  have eaR0a : (w.alloc (.cells #[.bool g0, .slice a0 len0 cap0, .slice b0 m0 d0] 49)).cell? ⟨w.heap.size, 0, none⟩ = some (.bool g0) := XaR_1.out.cell 0
  have eaR1a : (w.alloc (.cells #[.bool g0, .slice a0 len0 cap0, .slice b0 m0 d0] 49)).cell? ⟨w.heap.size, 1, none⟩ = some (.slice a0 len0 cap0) := XaR_1.out.cell 1
  have eaR2a : (w.alloc (.cells #[.bool g0, .slice a0 len0 cap0, .slice b0 m0 d0] 49)).cell? ⟨w.heap.size, 2, none⟩ = some (.slice b0 m0 d0) := XaR_1.out.cell 2
  go_wp2_with fail
  clear eaR0a eaR1a eaR2a
  refine (szRat_any g0 a0 len0 cap0 b0 m0 d0 (1048576 : Int) _ hmz0 hmy0 (by omega) (by omega)).mono ?_
  rintro e ws0 ⟨lf0, rfl, hr, hb⟩
  have BW2 := Lib.hid (BW1.out.trans (hb.mono BW1.out.size))
  have sz2 : (w.alloc (.cells #[.bool g0, .slice a0 len0 cap0, .slice b0 m0 d0] 49)).heap.size ≤ ws0.heap.size := hb.size
  have XaR_2 := Lib.hid (XaR_1.out.below hb XaR_1.out.lt)
  clear hb
  rcases hr with rfl | ⟨h0, hr⟩
  · go_wp2_with fail
    go_ret
    exact ⟨rfl, BW2.out⟩
  have lb0 : 0 ≤ lf0 ∧ lf0 ≤ 1048576 := by omega
  have ls0 : lf0 + ((len0 : Int) + m0) = (1048576 : Int) := by omega
  have HLS0 := Lib.hid ls0
  have lt0 : len0 + m0 ≤ 1048576 := by omega
  clear ls0 hr
  have h00 := h0
  clear h0
  have Inz0 : Hid (InI w a0 len0 z0) := ⟨Hz0.out.1, by omega, Hz0.out.2.2.1, Hz0.out.2.2.2⟩
  have Iny0 : Hid (InI w b0 m0 y0) := ⟨Hy0.out.1, by omega, Hy0.out.2.2.1, Hy0.out.2.2.2⟩
  go_wp2_with fail
  refine (szRatS_any a1 len1 cap1 z1 lf0 _ (Hz1.out.below BW2.out) (by omega) (by omega)).mono ?_
  rintro e ws1 ⟨lf1, rfl, hr, hb⟩
  have BW3 := Lib.hid (BW2.out.trans (hb.mono BW2.out.size))
  have sz3 : ws0.heap.size ≤ ws1.heap.size := hb.size
  have XaR_3 := Lib.hid (XaR_2.out.below hb XaR_2.out.lt)
  clear hb
  rcases hr with rfl | ⟨h0, hr⟩
  · go_wp2_with fail
    go_ret
    exact ⟨rfl, BW3.out⟩
  have lb1 : 0 ≤ lf1 ∧ lf1 ≤ 1048576 := by omega
  have ls1 : lf1 + ((len1 : Int) + tot z1) = lf0 := by omega
  have HLS1 := Lib.hid ls1
  have lt1 : len1 + tot z1 ≤ 1048576 := by omega
  clear ls1 hr
  have h01 := h0
  clear h0
  have Ftz1 := Lib.hid (Hz1.out.fits (by omega))
  have eaR0a : ws1.cell? ⟨w.heap.size, 0, none⟩ = some (.bool g0) := XaR_3.out.cell 0
  have eaR1a : ws1.cell? ⟨w.heap.size, 1, none⟩ = some (.slice a0 len0 cap0) := XaR_3.out.cell 1
  have eaR2a : ws1.cell? ⟨w.heap.size, 2, none⟩ = some (.slice b0 m0 d0) := XaR_3.out.cell 2
  go_wp2_with fail
  clear eaR0a eaR1a eaR2a
  refine (toRat_el g0 a0 len0 cap0 z0 b0 m0 d0 y0 _ Inz0.out.len Inz0.out.le (Inz0.out.rd.below BW3.out) Iny0.out.len Iny0.out.le (Iny0.out.rd.below BW3.out)).mono ?_
  rintro e w1 ⟨At1, ct1, Bt1, dt1, rfl, ho, hb⟩
  have BW4 := Lib.hid (BW3.out.trans (hb.mono BW3.out.size))
  have sz4 : ws1.heap.size ≤ w1.heap.size := hb.size
  have XaR_4 := Lib.hid (XaR_3.out.below hb XaR_3.out.lt)
  have Ut1 := Lib.hid ho.lt
  have Rt1_4 := Lib.hid ho.holds
  clear ho hb
  go_wp2_with fail
  refine (toRatS_any a1 len1 cap1 z1 _ (Hz1.out.below BW4.out) (by omega)).mono ?_
  rintro e w2 ⟨V, Lt2, rfl, ho, hh, hb⟩
  have BW5 := Lib.hid (BW4.out.trans (hb.mono BW4.out.size))
  have sz5 : w1.heap.size ≤ w2.heap.size := hb.size
  have Rt1_5 := Lib.hid (Rt1_4.out.below hb)
  have XaR_5 := Lib.hid (XaR_4.out.below hb XaR_4.out.lt)
  obtain ⟨At2, ct2, rfl⟩ := ho.slice
  have Ut2 := Lib.hid ho.lt
  have Rt2_5 := Lib.hid ho.holds
  have HHt2 := Lib.hid hh
  have Mt2 : mtot Lt2 = len1 + tot z1 := by have := mtot_has hh; have := Hz1.out.1; omega
  clear ho hh hb
  go_wp2_with fail
  refine (spec_scaleVector g0 At1 len0 ct1 z0 Bt1 m0 dt1 y0 At2 len1 ct2 z1 _ (Inz0.out.own (row1 Rt1_5)) (room_own (row1 Rt1_5)) (Iny0.out.own (row2 Rt1_5)) (room_own (row2 Rt1_5)) (vin Rt2_5 HHt2 (by omega) Ftz1)).mono ?_
  rintro e w3 ⟨r1_0, v0, r1_1, rfl, his, h0, hb⟩
  have BW6 := Lib.hid (BW5.out.trans (hb.mono BW5.out.size))
  have sz6 : w2.heap.size ≤ w3.heap.size := hb.size
  have Rt1_6 := Lib.hid (Rt1_5.out.below hb)
  have Rt2_6 := Lib.hid (Rt2_5.out.below hb)
  have XaR_6 := Lib.hid (XaR_5.out.below hb XaR_5.out.lt)
  have IS := Lib.hid his
  clear his
  obtain ⟨hl, hf, Lw0, ho, hh⟩ := h0
  obtain ⟨N0, hN⟩ : ∃ N, N = r1_0.length := ⟨_, rfl⟩
  rw [← hN] at hl ho
  have HN0 : Hid (r1_0.length = N0) := hN.symm
  have hl0 := hl
  have Ftr1_0 := Lib.hid hf
  clear hN hl hf
  obtain ⟨Aw0, cw0, rfl⟩ := ho.slice
  have Uw0 := Lib.hid ho.lt
  have Rw0_6 := Lib.hid ho.holds
  have HHw0 := Lib.hid hh
  have Mw0 : mtot Lw0 = N0 + tot r1_0 := by have := mtot_has hh; have := HN0.out; omega
  clear ho hh
  clear hb
  clear Rt1_6 Ut1
  clear Rt2_6 Ut2
  have eaR0a : w3.cell? ⟨w.heap.size, 0, none⟩ = some (.bool g0) := XaR_6.out.cell 0
  have eaR1a : w3.cell? ⟨w.heap.size, 1, none⟩ = some (.slice a0 len0 cap0) := XaR_6.out.cell 1
  have eaR2a : w3.cell? ⟨w.heap.size, 2, none⟩ = some (.slice b0 m0 d0) := XaR_6.out.cell 2
  go_wp2_with fail
  clear eaR0a eaR1a eaR2a
  refine (toRat_el g0 a0 len0 cap0 z0 b0 m0 d0 y0 _ Inz0.out.len Inz0.out.le (Inz0.out.rd.below BW6.out) Iny0.out.len Iny0.out.le (Iny0.out.rd.below BW6.out)).mono ?_
  rintro e w4 ⟨Ax0, cx0, Bx0, dx0, rfl, ho, hb⟩
  have BW7 := Lib.hid (BW6.out.trans (hb.mono BW6.out.size))
  have sz7 : w3.heap.size ≤ w4.heap.size := hb.size
  have Rw0_7 := Lib.hid (Rw0_6.out.below hb)
  have XaR_7 := Lib.hid (XaR_6.out.below hb XaR_6.out.lt)
  have Ux0 := Lib.hid ho.lt
  have Rx0_7 := Lib.hid ho.holds
  clear ho hb
  have BW8 := Lib.hid (BW7.out.alloc BW7.out.size (.cells #[.bool g0, .slice Ax0 len0 cx0, .slice Bx0 m0 dx0] 26))
  have sz8 : w4.heap.size + 1 ≤ (w4.alloc (.cells #[.bool g0, .slice Ax0 len0 cx0, .slice Bx0 m0 dx0] 26)).heap.size := (by simp)
  have Rw0_8 := Lib.hid (Rw0_7.out.alloc (.cells #[.bool g0, .slice Ax0 len0 cx0, .slice Bx0 m0 dx0] 26))
  have Rx0_8 := Lib.hid (Rx0_7.out.alloc (.cells #[.bool g0, .slice Ax0 len0 cx0, .slice Bx0 m0 dx0] 26))
  have XaR_8 := Lib.hid (XaR_7.out.alloc (.cells #[.bool g0, .slice Ax0 len0 cx0, .slice Bx0 m0 dx0] 26))
  have Xx0_8 := Lib.hid (Box.new w4 26 #[.bool g0, .slice Ax0 len0 cx0, .slice Bx0 m0 dx0])
  go_wp2_with fail
  refine (toRatS_any a1 len1 cap1 z1 _ (Hz1.out.below BW8.out) (by omega)).mono ?_
  rintro e w5 ⟨V, Lx1, rfl, ho, hh, hb⟩
  have BW9 := Lib.hid (BW8.out.trans (hb.mono BW8.out.size))
  have sz9 : (w4.alloc (.cells #[.bool g0, .slice Ax0 len0 cx0, .slice Bx0 m0 dx0] 26)).heap.size ≤ w5.heap.size := hb.size
  have Rw0_9 := Lib.hid (Rw0_8.out.below hb)
  have Rx0_9 := Lib.hid (Rx0_8.out.below hb)
  have XaR_9 := Lib.hid (XaR_8.out.below hb XaR_8.out.lt)
  have Xx0_9 := Lib.hid (Xx0_8.out.below hb Xx0_8.out.lt)
  obtain ⟨Ax1, cx1, rfl⟩ := ho.slice
  have Ux1 := Lib.hid ho.lt
  have Rx1_9 := Lib.hid ho.holds
  have HHx1 := Lib.hid hh
  have Mx1 : mtot Lx1 = len1 + tot z1 := by have := mtot_has hh; have := Hz1.out.1; omega
  clear ho hh hb
  have ex00a : w5.cell? ⟨w4.heap.size, 0, none⟩ = some (.bool g0) := Xx0_9.out.cell 0
  have ex01a : w5.cell? ⟨w4.heap.size, 1, none⟩ = some (.slice Ax0 len0 cx0) := Xx0_9.out.cell 1
  have ex02a : w5.cell? ⟨w4.heap.size, 2, none⟩ = some (.slice Bx0 m0 dx0) := Xx0_9.out.cell 2
  go_wp2_with fail
  clear ex00a ex01a ex02a
  refine (impl_scaleVector g0 Ax0 len0 cx0 z0 Bx0 m0 dx0 y0 Ax1 len1 cx1 z1 _ (Inz0.out.own (row1 Rx0_9)) (room_own (row1 Rx0_9)) (Iny0.out.own (row2 Rx0_9)) (room_own (row2 Rx0_9)) (vin Rx1_9 HHx1 (by omega) Ftz1)).mono ?_
  rintro e w6 ⟨r2_0, v0, r2_1, rfl, his, h0, hb⟩
  have BW10 := Lib.hid (BW9.out.trans (hb.mono BW9.out.size))
  have sz10 : w5.heap.size ≤ w6.heap.size := hb.size
  have Rw0_10 := Lib.hid (Rw0_9.out.below hb)
  have Rx0_10 := Lib.hid (Rx0_9.out.below hb)
  have Rx1_10 := Lib.hid (Rx1_9.out.below hb)
  have XaR_10 := Lib.hid (XaR_9.out.below hb XaR_9.out.lt)
  have Xx0_10 := Lib.hid (Xx0_9.out.below hb Xx0_9.out.lt)
  obtain ⟨rfl, rfl⟩ := scaleVector_unique IS.out his
  clear his
  obtain ⟨_, _, Lg0, ho, hh⟩ := h0
  rw [HN0.out] at ho
  obtain ⟨Ag0, cg0, rfl⟩ := ho.slice
  have Ug0 := Lib.hid ho.lt
  have Rg0_10 := Lib.hid ho.holds
  have HHg0 := Lib.hid hh
  have Mg0 : mtot Lg0 = N0 + tot r1_0 := by have := mtot_has hh; have := HN0.out; omega
  clear ho hh
  clear hb
  go_wp2_with fail
  refine (eqRatS_same Ag0 Aw0 N0 cg0 cw0 r1_0 _ (vin Rg0_10 HHg0 (by omega) Ftr1_0) (vin Rw0_10 HHw0 (by omega) Ftr1_0)).mono ?_
  rintro e w7 ⟨rfl, hb⟩
  have BW11 := Lib.hid (BW10.out.trans (hb.mono BW10.out.size))
  have sz11 : w6.heap.size ≤ w7.heap.size := hb.size
  have Rw0_11 := Lib.hid (Rw0_10.out.below hb)
  have Rx0_11 := Lib.hid (Rx0_10.out.below hb)
  have Rx1_11 := Lib.hid (Rx1_10.out.below hb)
  have Rg0_11 := Lib.hid (Rg0_10.out.below hb)
  have XaR_11 := Lib.hid (XaR_10.out.below hb XaR_10.out.lt)
  have Xx0_11 := Lib.hid (Xx0_10.out.below hb Xx0_10.out.lt)
  clear hb
  go_wp2_with fail
  have BW12 := Lib.hid BW11.out.drew
  have sz12 : w7.heap.size ≤ w7.drew.heap.size := Nat.le_refl _
  have Rw0_12 := Lib.hid Rw0_11.out.drew
  have Rx0_12 := Lib.hid Rx0_11.out.drew
  have Rx1_12 := Lib.hid Rx1_11.out.drew
  have Rg0_12 := Lib.hid Rg0_11.out.drew
  have XaR_12 := Lib.hid XaR_11.out.drew
  have Xx0_12 := Lib.hid Xx0_11.out.drew
  have cvx00 : Hid ((#[.bool g0, .slice Ax0 len0 cx0, .slice Bx0 m0 dx0] : Array Value)[0]? = some (.bool g0)) := rfl
  have cvx01 : Hid ((#[.bool g0, .slice Ax0 len0 cx0, .slice Bx0 m0 dx0] : Array Value)[1]? = some (.slice Ax0 len0 cx0)) := rfl
  have cvx02 : Hid ((#[.bool g0, .slice Ax0 len0 cx0, .slice Bx0 m0 dx0] : Array Value)[2]? = some (.slice Bx0 m0 dx0)) := rfl
  have cvaR0 : Hid ((#[.bool g0, .slice a0 len0 cap0, .slice b0 m0 d0] : Array Value)[0]? = some (.bool g0)) := rfl
  have cvaR1 : Hid ((#[.bool g0, .slice a0 len0 cap0, .slice b0 m0 d0] : Array Value)[1]? = some (.slice a0 len0 cap0)) := rfl
  have cvaR2 : Hid ((#[.bool g0, .slice a0 len0 cap0, .slice b0 m0 d0] : Array Value)[2]? = some (.slice b0 m0 d0)) := rfl
  go_region_held3 (fun w' => w'.cell? ⟨w4.heap.size, 0, none⟩ = some (.bool g0) ∧ w'.cell? ⟨w4.heap.size, 1, none⟩ = some (.slice Ax0 len0 cx0) ∧ w'.cell? ⟨w4.heap.size, 2, none⟩ = some (.slice Bx0 m0 dx0) ∧ w'.cell? ⟨w.heap.size, 0, none⟩ = some (.bool g0) ∧ w'.cell? ⟨w.heap.size, 1, none⟩ = some (.slice a0 len0 cap0) ∧ w'.cell? ⟨w.heap.size, 2, none⟩ = some (.slice b0 m0 d0)) (first | with_reducible exact ⟨cellS Xx0_14 cvx00, cellS Xx0_14 cvx01, cellS Xx0_14 cvx02, cellS XaR_14 cvaR0, cellS XaR_14 cvaR1, cellS XaR_14 cvaR2⟩ | with_reducible exact ⟨cellS Xx0_13 cvx00, cellS Xx0_13 cvx01, cellS Xx0_13 cvx02, cellS XaR_13 cvaR0, cellS XaR_13 cvaR1, cellS XaR_13 cvaR2⟩ | with_reducible exact ⟨cellS Xx0_12 cvx00, cellS Xx0_12 cvx01, cellS Xx0_12 cvx02, cellS XaR_12 cvaR0, cellS XaR_12 cvaR1, cellS XaR_12 cvaR2⟩) (first | (go_at_call 15; refine (eqRat_same g0 Ax0 At3 len0 cx0 ct3 z0 Bx0 Bt3 m0 dx0 dt3 y0 _ Inz0.out.len (by unfold maxLen; omega) (Reads.of_own (row1 Rx0_13)) (Reads.of_own (row1 Rt3_13)) Iny0.out.len (by unfold maxLen; omega) (Reads.of_own (row2 Rx0_13)) (Reads.of_own (row2 Rt3_13))).mono ?_; rintro e w9 ⟨rfl, hb⟩; have BW14 := Lib.hid (BW13.out.trans (hb.mono BW13.out.size)); have sz14 : w8.heap.size ≤ w9.heap.size := hb.size; have Rw0_14 := Lib.hid (Rw0_13.out.below hb); have Rx0_14 := Lib.hid (Rx0_13.out.below hb); have Rx1_14 := Lib.hid (Rx1_13.out.below hb); have Rg0_14 := Lib.hid (Rg0_13.out.below hb); have Rt3_14 := Lib.hid (Rt3_13.out.below hb); have XaR_14 := Lib.hid (XaR_13.out.below hb XaR_13.out.lt); have Xx0_14 := Lib.hid (Xx0_13.out.below hb Xx0_13.out.lt); clear hb) | (go_at_call 35; refine (toRat_el g0 a0 len0 cap0 z0 b0 m0 d0 y0 _ Inz0.out.len Inz0.out.le (Inz0.out.rd.below BW12.out) Iny0.out.len Iny0.out.le (Iny0.out.rd.below BW12.out)).mono ?_; rintro e w8 ⟨At3, ct3, Bt3, dt3, rfl, ho, hb⟩; have BW13 := Lib.hid (BW12.out.trans (hb.mono BW12.out.size)); have sz13 : w7.drew.heap.size ≤ w8.heap.size := hb.size; have Rw0_13 := Lib.hid (Rw0_12.out.below hb); have Rx0_13 := Lib.hid (Rx0_12.out.below hb); have Rx1_13 := Lib.hid (Rx1_12.out.below hb); have Rg0_13 := Lib.hid (Rg0_12.out.below hb); have XaR_13 := Lib.hid (XaR_12.out.below hb XaR_12.out.lt); have Xx0_13 := Lib.hid (Xx0_12.out.below hb Xx0_12.out.lt); have Ut3 := Lib.hid ho.lt; have Rt3_13 := Lib.hid ho.holds; clear ho hb))
  clear cvx00 cvx01 cvx02 cvaR0 cvaR1 cvaR2
  clear Rt3_14 Ut3
  go_wp2_with fail
  refine (toRatS_any a1 len1 cap1 z1 _ (Hz1.out.below BW14.out) (by omega)).mono ?_
  rintro e w10 ⟨V, Lt4, rfl, ho, hh, hb⟩
  have BW15 := Lib.hid (BW14.out.trans (hb.mono BW14.out.size))
  have sz15 : w9.heap.size ≤ w10.heap.size := hb.size
  have Rw0_15 := Lib.hid (Rw0_14.out.below hb)
  have Rx0_15 := Lib.hid (Rx0_14.out.below hb)
  have Rx1_15 := Lib.hid (Rx1_14.out.below hb)
  have Rg0_15 := Lib.hid (Rg0_14.out.below hb)
  have XaR_15 := Lib.hid (XaR_14.out.below hb XaR_14.out.lt)
  have Xx0_15 := Lib.hid (Xx0_14.out.below hb Xx0_14.out.lt)
  obtain ⟨At4, ct4, rfl⟩ := ho.slice
  have Ut4 := Lib.hid ho.lt
  have Rt4_15 := Lib.hid ho.holds
  have HHt4 := Lib.hid hh
  have Mt4 : mtot Lt4 = len1 + tot z1 := by have := mtot_has hh; have := Hz1.out.1; omega
  clear ho hh hb
  go_wp2_with fail
  refine (eqRatS_same Ax1 At4 len1 cx1 ct4 z1 _ (vin Rx1_15 HHx1 (by omega) Ftz1) (vin Rt4_15 HHt4 (by omega) Ftz1)).mono ?_
  rintro e w11 ⟨rfl, hb⟩
  have BW16 := Lib.hid (BW15.out.trans (hb.mono BW15.out.size))
  have sz16 : w10.heap.size ≤ w11.heap.size := hb.size
  have Rw0_16 := Lib.hid (Rw0_15.out.below hb)
  have Rx0_16 := Lib.hid (Rx0_15.out.below hb)
  have Rx1_16 := Lib.hid (Rx1_15.out.below hb)
  have Rg0_16 := Lib.hid (Rg0_15.out.below hb)
  have Rt4_16 := Lib.hid (Rt4_15.out.below hb)
  have XaR_16 := Lib.hid (XaR_15.out.below hb XaR_15.out.lt)
  have Xx0_16 := Lib.hid (Xx0_15.out.below hb Xx0_15.out.lt)
  clear hb
  clear Rt4_16 Ut4
  have ex00a : w11.cell? ⟨w4.heap.size, 0, none⟩ = some (.bool g0) := Xx0_16.out.cell 0
  have ex01a : w11.cell? ⟨w4.heap.size, 1, none⟩ = some (.slice Ax0 len0 cx0) := Xx0_16.out.cell 1
  have ex02a : w11.cell? ⟨w4.heap.size, 2, none⟩ = some (.slice Bx0 m0 dx0) := Xx0_16.out.cell 2
  go_wp2_with fail
  clear ex00a ex01a ex02a
  refine (markRat_el _ g0 Ax0 len0 cx0 _ Bx0 m0 dx0 _ (1) _ (by unfold maxLen; omega) (enow Rx0_16) (ints_are _) (ints_are _)).mono ?_
  rintro e w12 ⟨rfl, ho, hW⟩
  have BW17 := Lib.hid (Wrote.below BW16.out hW (fun k hk => by have := Ux0.out k hk; omega) (by omega))
  have sz17 : w11.heap.size ≤ w12.heap.size := hW.size
  have Rw0_17 := Lib.hid (Rw0_16.out.wrote hW (two_none Uw0 Ux0 (.inl (by omega))))
  have Rx1_17 := Lib.hid (Rx1_16.out.wrote hW (two_none Ux1 Ux0 (.inr (by omega))))
  have Rg0_17 := Lib.hid (Rg0_16.out.wrote hW (two_none Ug0 Ux0 (.inr (by omega))))
  have XaR_17 := Lib.hid (XaR_16.out.wrote hW Ux0 (.inl (by omega)))
  have Xx0_17 := Lib.hid (Xx0_16.out.wrote hW Ux0 (.inr (by omega)))
  have Rx0_17 := Lib.hid (El.own.holds_foot (xs := (z0.map (.int .i64))) (ys := (y0.map (.int .i64))) ho)
  clear ho hW
  clear Rx0_17 Ux0 Xx0_17
  go_wp2_with fail
  refine (markRatS_own _ Ax1 len1 cx1 (1 + len0 + m0) Lx1 z1 _ (by unfold maxLen; omega) (vnow Rx1_17) HHx1.out).mono ?_
  rintro e w13 ⟨rfl, ho, hW⟩
  have BW18 := Lib.hid (Wrote.below BW17.out hW (fun k hk => by have := Ux1.out k hk; omega) (by omega))
  have sz18 : w12.heap.size ≤ w13.heap.size := hW.size
  have Rw0_18 := Lib.hid (Rw0_17.out.wrote hW (two_none Uw0 Ux1 (.inl (by omega))))
  have Rg0_18 := Lib.hid (Rg0_17.out.wrote hW (two_none Ug0 Ux1 (.inr (by omega))))
  have XaR_18 := Lib.hid (XaR_17.out.wrote hW Ux1 (.inl (by omega)))
  have Rx1_18 := Lib.hid ho.holds_marked
  clear ho hW
  clear Rx1_18 Ux1
  go_wp2_with fail
  refine (eqRatS_same Ag0 Aw0 N0 cg0 cw0 r1_0 _ (vin Rg0_18 HHg0 (by omega) Ftr1_0) (vin Rw0_18 HHw0 (by omega) Ftr1_0)).mono ?_
  rintro e w14 ⟨rfl, hb⟩
  have BW19 := Lib.hid (BW18.out.trans (hb.mono BW18.out.size))
  have sz19 : w13.heap.size ≤ w14.heap.size := hb.size
  have Rw0_19 := Lib.hid (Rw0_18.out.below hb)
  have Rg0_19 := Lib.hid (Rg0_18.out.below hb)
  have XaR_19 := Lib.hid (XaR_18.out.below hb XaR_18.out.lt)
  clear hb
  go_wp2_with fail
  refine (markRatS_own _ Ag0 N0 cg0 (1) Lg0 r1_0 _ (by unfold maxLen; omega) (vnow Rg0_19) HHg0.out).mono ?_
  rintro e w15 ⟨rfl, ho, hW⟩
  have BW20 := Lib.hid (Wrote.below BW19.out hW (fun k hk => by have := Ug0.out k hk; omega) (by omega))
  have sz20 : w14.heap.size ≤ w15.heap.size := hW.size
  have Rw0_20 := Lib.hid (Rw0_19.out.wrote hW (two_none Uw0 Ug0 (.inl (by omega))))
  have XaR_20 := Lib.hid (XaR_19.out.wrote hW Ug0 (.inl (by omega)))
  have Rg0_20 := Lib.hid ho.holds_marked
  clear ho hW
  go_wp2_with fail
  refine (heldRatS_same _ Ag0 N0 cg0 (1) Lg0 _ (by unfold maxLen; omega) (vnow Rg0_20)).mono ?_
  rintro e w16 ⟨rfl, hb⟩
  have BW21 := Lib.hid (BW20.out.trans (hb.mono BW20.out.size))
  have sz21 : w15.heap.size ≤ w16.heap.size := hb.size
  have Rw0_21 := Lib.hid (Rw0_20.out.below hb)
  have Rg0_21 := Lib.hid (Rg0_20.out.below hb)
  have XaR_21 := Lib.hid (XaR_20.out.below hb XaR_20.out.lt)
  clear hb
  have eaR0a : w16.cell? ⟨w.heap.size, 0, none⟩ = some (.bool g0) := XaR_21.out.cell 0
  have eaR1a : w16.cell? ⟨w.heap.size, 1, none⟩ = some (.slice a0 len0 cap0) := XaR_21.out.cell 1
  have eaR2a : w16.cell? ⟨w.heap.size, 2, none⟩ = some (.slice b0 m0 d0) := XaR_21.out.cell 2
  go_wp2_with fail
  clear eaR0a eaR1a eaR2a
  refine (toRat_el g0 a0 len0 cap0 z0 b0 m0 d0 y0 _ Inz0.out.len Inz0.out.le (Inz0.out.rd.below BW21.out) Iny0.out.len Iny0.out.le (Iny0.out.rd.below BW21.out)).mono ?_
  rintro e w17 ⟨At5, ct5, Bt5, dt5, rfl, ho, hb⟩
  have BW22 := Lib.hid (BW21.out.trans (hb.mono BW21.out.size))
  have sz22 : w16.heap.size ≤ w17.heap.size := hb.size
  have Rw0_22 := Lib.hid (Rw0_21.out.below hb)
  have Rg0_22 := Lib.hid (Rg0_21.out.below hb)
  have XaR_22 := Lib.hid (XaR_21.out.below hb XaR_21.out.lt)
  have Ut5 := Lib.hid ho.lt
  have Rt5_22 := Lib.hid ho.holds
  clear ho hb
  go_wp2_with fail
  refine (toRatS_any a1 len1 cap1 z1 _ (Hz1.out.below BW22.out) (by omega)).mono ?_
  rintro e w18 ⟨V, Lt6, rfl, ho, hh, hb⟩
  have BW23 := Lib.hid (BW22.out.trans (hb.mono BW22.out.size))
  have sz23 : w17.heap.size ≤ w18.heap.size := hb.size
  have Rw0_23 := Lib.hid (Rw0_22.out.below hb)
  have Rg0_23 := Lib.hid (Rg0_22.out.below hb)
  have Rt5_23 := Lib.hid (Rt5_22.out.below hb)
  have XaR_23 := Lib.hid (XaR_22.out.below hb XaR_22.out.lt)
  obtain ⟨At6, ct6, rfl⟩ := ho.slice
  have Ut6 := Lib.hid ho.lt
  have Rt6_23 := Lib.hid ho.holds
  have HHt6 := Lib.hid hh
  have Mt6 : mtot Lt6 = len1 + tot z1 := by have := mtot_has hh; have := Hz1.out.1; omega
  clear ho hh hb
  go_wp2_with fail
  refine (impl_scaleVector g0 At5 len0 ct5 z0 Bt5 m0 dt5 y0 At6 len1 ct6 z1 _ (Inz0.out.own (row1 Rt5_23)) (room_own (row1 Rt5_23)) (Iny0.out.own (row2 Rt5_23)) (room_own (row2 Rt5_23)) (vin Rt6_23 HHt6 (by omega) Ftz1)).mono ?_
  rintro e w19 ⟨r3_0, v0, r3_1, rfl, his, h0, hb⟩
  have BW24 := Lib.hid (BW23.out.trans (hb.mono BW23.out.size))
  have sz24 : w18.heap.size ≤ w19.heap.size := hb.size
  have Rw0_24 := Lib.hid (Rw0_23.out.below hb)
  have Rg0_24 := Lib.hid (Rg0_23.out.below hb)
  have Rt5_24 := Lib.hid (Rt5_23.out.below hb)
  have Rt6_24 := Lib.hid (Rt6_23.out.below hb)
  have XaR_24 := Lib.hid (XaR_23.out.below hb XaR_23.out.lt)
  obtain ⟨rfl, rfl⟩ := scaleVector_unique IS.out his
  clear his
  obtain ⟨_, _, Lh0, ho, hh⟩ := h0
  rw [HN0.out] at ho
  obtain ⟨Ah0, ch0, rfl⟩ := ho.slice
  have Uh0 := Lib.hid ho.lt
  have Rh0_24 := Lib.hid ho.holds
  have HHh0 := Lib.hid hh
  have Mh0 : mtot Lh0 = N0 + tot r1_0 := by have := mtot_has hh; have := HN0.out; omega
  clear ho hh
  clear hb
  clear Rt5_24 Ut5
  clear Rt6_24 Ut6
  go_wp2_with fail
  refine (eqRatS_same Ah0 Aw0 N0 ch0 cw0 r1_0 _ (vin Rh0_24 HHh0 (by omega) Ftr1_0) (vin Rw0_24 HHw0 (by omega) Ftr1_0)).mono ?_
  rintro e w20 ⟨rfl, hb⟩
  have BW25 := Lib.hid (BW24.out.trans (hb.mono BW24.out.size))
  have sz25 : w19.heap.size ≤ w20.heap.size := hb.size
  have Rw0_25 := Lib.hid (Rw0_24.out.below hb)
  have Rg0_25 := Lib.hid (Rg0_24.out.below hb)
  have Rh0_25 := Lib.hid (Rh0_24.out.below hb)
  have XaR_25 := Lib.hid (XaR_24.out.below hb XaR_24.out.lt)
  clear hb
  clear Rw0_25 Uw0
  clear Rh0_25 Uh0
  go_wp2_with fail
  refine (heldRatS_same _ Ag0 N0 cg0 (1) Lg0 _ (by unfold maxLen; omega) (vnow Rg0_25)).mono ?_
  rintro e w21 ⟨rfl, hb⟩
  have BW26 := Lib.hid (BW25.out.trans (hb.mono BW25.out.size))
  have sz26 : w20.heap.size ≤ w21.heap.size := hb.size
  have Rg0_26 := Lib.hid (Rg0_25.out.below hb)
  have XaR_26 := Lib.hid (XaR_25.out.below hb XaR_25.out.lt)
  clear hb
  clear Rg0_26 Ug0
  go_wp2_with fail
  go_ret
  exact ⟨rfl, BW26.out⟩
end Go.Proofs.Ytjggdbakbhacjaa.fnExactScaleVector
