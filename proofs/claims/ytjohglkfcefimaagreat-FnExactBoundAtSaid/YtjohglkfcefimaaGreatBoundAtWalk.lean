/- The walk of the law: for all arguments the law FnExactBoundAt returns true: the program's BoundAt answers as the model's; no condition on them. -/
import Derived.Test.YtjohglkfcefimaaGreatGV
import Derived.Test.YtjohglkfcefimaaGreatLpM
import Derived.Test.YtjohglkfcefimaaGreatLpS3
import Derived.Test.YtjohglkfcefimaaGreatLpI4
import Derived.ProofKit
import Derived.OpenShut
import Derived.ShutString
import Derived.Lib.SmallJoins
namespace Go.Proofs.YtjohglkfcefimaaGreat.fnExactBoundAt
set_option maxRecDepth 100000
open Go.ChangeShapes Go.WideShapes Go.ChangeAt Go.RowKit Go.Joins Go.Deep
open Go.ChangeMaps (open_string shut_string)

set_option maxRecDepth 100000 in
set_option maxHeartbeats 16000000 in
theorem walk {w : World} (p0 : Int) (hp0 : (Lit.int .i64 p0).wf = true) (q0 : Int) (hq0 : (Lit.int .i64 q0).wf = true) (a0 : Option Addr) (len0 cap0 : Nat) (z0 : List Int) (hz0 : IsInts w a0 len0 z0) (b0 : Option Addr) (m0 d0 : Nat) (y0 : List Int) (hy0 : IsInts w b0 m0 y0) (ee0 : Option Addr) (ll0 ff0 : Nat) (yy0 : List Int) (hyy0 : IsInts w ee0 ll0 yy0) (a1 : Option Addr) (len1 cap1 : Nat) (z1 : List RD) (hz1 : IsV w a1 len1 z1) :
    Calls Tryz.prog 6 #[.agg #[.int .i64 p0, .int .i64 q0, .slice a0 len0 cap0, .slice b0 m0 d0, .slice ee0 ll0 ff0], .slice a1 len1 cap1] w fun e w' => e = .returned (.bool true) ∧ Below w.heap.size w w' := by
  have Bp0 := bounds_i64 hp0
  clear hp0
  have Bq0 := bounds_i64 hq0
  clear hq0
  have hmz0 : len0 ≤ maxLen := hz0.2.1
  have Hz0 := Lib.hid hz0
  clear hz0
  have hmy0 : m0 ≤ maxLen := hy0.2.1
  have Hy0 := Lib.hid hy0
  clear hy0
  have hmyy0 : ll0 ≤ maxLen := hyy0.2.1
  have Hyy0 := Lib.hid hyy0
  clear hyy0
  have hmz1 : len1 ≤ maxLen := hz1.2.1
  have Hz1 := Lib.hid hz1
  clear hz1
  have BW0 : Hid (Below w.heap.size w w) := Below.refl _ _
  have BW1 := Lib.hid (BW0.out.alloc BW0.out.size (.cells #[.int .i64 p0, .int .i64 q0, .slice a0 len0 cap0, .slice b0 m0 d0, .slice ee0 ll0 ff0] 24))
  have sz1 : Hid (w.heap.size + 1 ≤ (w.alloc (.cells #[.int .i64 p0, .int .i64 q0, .slice a0 len0 cap0, .slice b0 m0 d0, .slice ee0 ll0 ff0] 24)).heap.size) := Lib.hid (by simp)
  have XaP_1 := Lib.hid (Box.new w 24 #[.int .i64 p0, .int .i64 q0, .slice a0 len0 cap0, .slice b0 m0 d0, .slice ee0 ll0 ff0])
  go_enter Tryz.func6, Tryz.ntmps6
  have eaP0a : (w.alloc (.cells #[.int .i64 p0, .int .i64 q0, .slice a0 len0 cap0, .slice b0 m0 d0, .slice ee0 ll0 ff0] 24)).cell? ⟨w.heap.size, 0, none⟩ = some (.int .i64 p0) := XaP_1.out.cell 0
  have eaP1a : (w.alloc (.cells #[.int .i64 p0, .int .i64 q0, .slice a0 len0 cap0, .slice b0 m0 d0, .slice ee0 ll0 ff0] 24)).cell? ⟨w.heap.size, 1, none⟩ = some (.int .i64 q0) := XaP_1.out.cell 1
  have eaP2a : (w.alloc (.cells #[.int .i64 p0, .int .i64 q0, .slice a0 len0 cap0, .slice b0 m0 d0, .slice ee0 ll0 ff0] 24)).cell? ⟨w.heap.size, 2, none⟩ = some (.slice a0 len0 cap0) := XaP_1.out.cell 2
  have eaP3a : (w.alloc (.cells #[.int .i64 p0, .int .i64 q0, .slice a0 len0 cap0, .slice b0 m0 d0, .slice ee0 ll0 ff0] 24)).cell? ⟨w.heap.size, 3, none⟩ = some (.slice b0 m0 d0) := XaP_1.out.cell 3
  have eaP4a : (w.alloc (.cells #[.int .i64 p0, .int .i64 q0, .slice a0 len0 cap0, .slice b0 m0 d0, .slice ee0 ll0 ff0] 24)).cell? ⟨w.heap.size, 4, none⟩ = some (.slice ee0 ll0 ff0) := XaP_1.out.cell 4
  go_wp2_with fail
  clear eaP0a eaP1a eaP2a eaP3a eaP4a
  refine (szProgram_any p0 q0 a0 len0 cap0 b0 m0 d0 ee0 ll0 ff0 (1048576 : Int) _ hmz0 hmy0 hmyy0 (by omega) (by omega)).mono ?_
  rintro e ws0 ⟨lf0, rfl, hr, hb⟩
  have BW2 := Lib.hid (BW1.out.trans (hb.mono BW1.out.size))
  have sz2 : Hid ((w.alloc (.cells #[.int .i64 p0, .int .i64 q0, .slice a0 len0 cap0, .slice b0 m0 d0, .slice ee0 ll0 ff0] 24)).heap.size ≤ ws0.heap.size) := hb.size
  have XaP_2 := Lib.hid (XaP_1.out.below hb XaP_1.out.lt)
  clear hb
  rcases hr with rfl | ⟨h0, hr⟩
  · go_wp2_with fail
    go_ret
    exact ⟨rfl, BW2.out⟩
  have lb0 : 0 ≤ lf0 ∧ lf0 ≤ 1048576 := by omega
  have ls0 : lf0 + ((len0 : Int) + m0 + ll0) = (1048576 : Int) := by omega
  have HLS0 := Lib.hid ls0
  have lt0 : len0 + m0 + ll0 ≤ 1048576 := by omega
  clear ls0 hr
  have h00 := h0
  clear h0
  have Inz0 : Hid (InP w a0 len0 z0 b0 m0 y0 ee0 ll0 yy0) := ⟨Hz0.out.inI (by omega), Hy0.out.inI (by omega), Hyy0.out.inI (by omega)⟩
  go_wp2_with fail
  refine (szRatS_any a1 len1 cap1 z1 lf0 _ (Hz1.out.below BW2.out) (by omega) (by omega)).mono ?_
  rintro e ws1 ⟨lf1, rfl, hr, hb⟩
  have BW3 := Lib.hid (BW2.out.trans (hb.mono BW2.out.size))
  have sz3 : Hid (ws0.heap.size ≤ ws1.heap.size) := hb.size
  have XaP_3 := Lib.hid (XaP_2.out.below hb XaP_2.out.lt)
  clear hb
  rcases hr with rfl | ⟨h0, hr⟩
  · go_wp2_with fail
    go_ret
    exact ⟨rfl, BW3.out⟩
  have lb1 : 0 ≤ lf1 ∧ lf1 ≤ 1048576 := by omega
  have ls1 : lf1 + ((len1 : Int) + tot z1) = lf0 := by omega
  have HLS1 := Lib.hid ls1
  have lt1 : len1 + tot z1 ≤ 1048576 := by omega
  clear ls1 hr
  have h01 := h0
  clear h0
  have Ftz1 := Lib.hid (Hz1.out.fits (by omega))
  have eaP0a : ws1.cell? ⟨w.heap.size, 0, none⟩ = some (.int .i64 p0) := XaP_3.out.cell 0
  have eaP1a : ws1.cell? ⟨w.heap.size, 1, none⟩ = some (.int .i64 q0) := XaP_3.out.cell 1
  have eaP2a : ws1.cell? ⟨w.heap.size, 2, none⟩ = some (.slice a0 len0 cap0) := XaP_3.out.cell 2
  have eaP3a : ws1.cell? ⟨w.heap.size, 3, none⟩ = some (.slice b0 m0 d0) := XaP_3.out.cell 3
  have eaP4a : ws1.cell? ⟨w.heap.size, 4, none⟩ = some (.slice ee0 ll0 ff0) := XaP_3.out.cell 4
  go_wp2_with fail
  clear eaP0a eaP1a eaP2a eaP3a eaP4a
  refine (toProgram_any p0 q0 a0 len0 cap0 z0 b0 m0 d0 y0 ee0 ll0 ff0 yy0 _ (Inz0.out.below BW3.out)).mono ?_
  rintro e w1 ⟨At1, ct1, Bt1, dt1, Ct1, ft1, rfl, ho, hb⟩
  have BW4 := Lib.hid (BW3.out.trans (hb.mono BW3.out.size))
  have sz4 : Hid (ws1.heap.size ≤ w1.heap.size) := hb.size
  have XaP_4 := Lib.hid (XaP_3.out.below hb XaP_3.out.lt)
  have Ut1 := Lib.hid ho.lt
  have Rt1_4 := Lib.hid ho.holds
  have hcapt1 : len0 ≤ ct1 := own_le ho.1
  clear ho hb
  go_wp2_with fail
  refine (toRatS_any a1 len1 cap1 z1 _ (Hz1.out.below BW4.out) (by omega)).mono ?_
  rintro e w2 ⟨V, Lt2, rfl, ho, hh, hb⟩
  have BW5 := Lib.hid (BW4.out.trans (hb.mono BW4.out.size))
  have sz5 : Hid (w1.heap.size ≤ w2.heap.size) := hb.size
  have Rt1_5 := Lib.hid (Rt1_4.out.below hb)
  have XaP_5 := Lib.hid (XaP_4.out.below hb XaP_4.out.lt)
  obtain ⟨At2, ct2, rfl⟩ := ho.slice
  have Ut2 := Lib.hid ho.lt
  have Rt2_5 := Lib.hid ho.holds
  have HHt2 := Lib.hid hh
  obtain ⟨mt2, hmt2⟩ : ∃ m, m = mtot Lt2 := ⟨_, rfl⟩
  have Mt2 : Hid (mt2 = len1 + tot z1) := Lib.hid (by have := mtot_has hh; have := Hz1.out.1; omega)
  have Qt2 : Hid (mtot Lt2 = mt2) := hmt2.symm
  clear hmt2
  clear ho hh hb
  go_wp2_with fail
  refine (spec_boundAt p0 q0 At1 len0 ct1 z0 Bt1 m0 dt1 y0 Ct1 ll0 ft1 yy0 At2 len1 ct2 z1 _ (pin Rt1_5 Inz0) Bp0 Bq0 hcapt1 (vin Rt2_5 HHt2 (by omega) Ftz1)).mono ?_
  rintro e w3 ⟨g1_0, r1_0, v0, q1_0, u0, r1_1, rfl, his, h0, k0, ap0, hb⟩
  have BW6 := Lib.hid (BW5.out.trans (hb.mono BW5.out.size))
  have sz6 : Hid (w2.heap.size ≤ w3.heap.size) := hb.size
  have Rt1_6 := Lib.hid (Rt1_5.out.below hb)
  have Rt2_6 := Lib.hid (Rt2_5.out.below hb)
  have XaP_6 := Lib.hid (XaP_5.out.below hb XaP_5.out.lt)
  have IS := Lib.hid his
  clear his
  obtain ⟨hl, h0⟩ := h0
  obtain ⟨hm, k0⟩ := k0
  obtain ⟨N0, hN⟩ : ∃ N, N = r1_0.length := ⟨_, rfl⟩
  obtain ⟨M0, hM⟩ : ∃ M, M = q1_0.length := ⟨_, rfl⟩
  rw [← hN] at hl h0
  rw [← hM] at hm k0
  have HN0 : Hid (r1_0.length = N0) := hN.symm
  have HM0 : Hid (q1_0.length = M0) := hM.symm
  have hl0 := hl
  have hm0 := hm
  clear hN hM hl hm
  obtain ⟨Aw0, cw0, rfl⟩ := own_slice h0
  obtain ⟨Bw0, dw0, rfl⟩ := own_slice k0
  have ho : (ratEl g1_0 Aw0 N0 cw0 (r1_0.map (.int .i64)) Bw0 M0 dw0 (q1_0.map (.int .i64))).own w3 w2.heap.size := ⟨h0, k0, ap0⟩
  have Uw0 := Lib.hid ho.lt
  have Rw0_6 := Lib.hid ho.holds
  clear ho h0 k0 ap0
  clear hb
  clear Rt1_6 Ut1
  clear Rt2_6 Ut2
  have BW7 := Lib.hid (BW6.out.alloc BW6.out.size (.cells #[.bool g1_0, .slice Aw0 N0 cw0, .slice Bw0 M0 dw0] 39))
  have sz7 : Hid (w3.heap.size + 1 ≤ (w3.alloc (.cells #[.bool g1_0, .slice Aw0 N0 cw0, .slice Bw0 M0 dw0] 39)).heap.size) := Lib.hid (by simp)
  have Rw0_7 := Lib.hid (Rw0_6.out.alloc (.cells #[.bool g1_0, .slice Aw0 N0 cw0, .slice Bw0 M0 dw0] 39))
  have XaP_7 := Lib.hid (XaP_6.out.alloc (.cells #[.bool g1_0, .slice Aw0 N0 cw0, .slice Bw0 M0 dw0] 39))
  have Xw0_7 := Lib.hid (Box.new w3 39 #[.bool g1_0, .slice Aw0 N0 cw0, .slice Bw0 M0 dw0])
  have eaP0a : w3.cell? ⟨w.heap.size, 0, none⟩ = some (.int .i64 p0) := XaP_6.out.cell 0
  have eaP1a : w3.cell? ⟨w.heap.size, 1, none⟩ = some (.int .i64 q0) := XaP_6.out.cell 1
  have eaP2a : w3.cell? ⟨w.heap.size, 2, none⟩ = some (.slice a0 len0 cap0) := XaP_6.out.cell 2
  have eaP3a : w3.cell? ⟨w.heap.size, 3, none⟩ = some (.slice b0 m0 d0) := XaP_6.out.cell 3
  have eaP4a : w3.cell? ⟨w.heap.size, 4, none⟩ = some (.slice ee0 ll0 ff0) := XaP_6.out.cell 4
  have eaP0b : (w3.alloc (.cells #[.bool g1_0, .slice Aw0 N0 cw0, .slice Bw0 M0 dw0] 39)).cell? ⟨w.heap.size, 0, none⟩ = some (.int .i64 p0) := XaP_7.out.cell 0
  have eaP1b : (w3.alloc (.cells #[.bool g1_0, .slice Aw0 N0 cw0, .slice Bw0 M0 dw0] 39)).cell? ⟨w.heap.size, 1, none⟩ = some (.int .i64 q0) := XaP_7.out.cell 1
  have eaP2b : (w3.alloc (.cells #[.bool g1_0, .slice Aw0 N0 cw0, .slice Bw0 M0 dw0] 39)).cell? ⟨w.heap.size, 2, none⟩ = some (.slice a0 len0 cap0) := XaP_7.out.cell 2
  have eaP3b : (w3.alloc (.cells #[.bool g1_0, .slice Aw0 N0 cw0, .slice Bw0 M0 dw0] 39)).cell? ⟨w.heap.size, 3, none⟩ = some (.slice b0 m0 d0) := XaP_7.out.cell 3
  have eaP4b : (w3.alloc (.cells #[.bool g1_0, .slice Aw0 N0 cw0, .slice Bw0 M0 dw0] 39)).cell? ⟨w.heap.size, 4, none⟩ = some (.slice ee0 ll0 ff0) := XaP_7.out.cell 4
  have neaP0 : w3.heap.size ≠ w.heap.size := (by have := XaP_6.out.lt; omega)
  go_wp2_with fail
  clear eaP0a eaP1a eaP2a eaP3a eaP4a eaP0b eaP1b eaP2b eaP3b eaP4b neaP0
  refine (toProgram_any p0 q0 a0 len0 cap0 z0 b0 m0 d0 y0 ee0 ll0 ff0 yy0 _ (Inz0.out.below BW7.out)).mono ?_
  rintro e w4 ⟨Ax0, cx0, Bx0, dx0, Cx0, fx0, rfl, ho, hb⟩
  have BW8 := Lib.hid (BW7.out.trans (hb.mono BW7.out.size))
  have sz8 : Hid ((w3.alloc (.cells #[.bool g1_0, .slice Aw0 N0 cw0, .slice Bw0 M0 dw0] 39)).heap.size ≤ w4.heap.size) := hb.size
  have Rw0_8 := Lib.hid (Rw0_7.out.below hb)
  have XaP_8 := Lib.hid (XaP_7.out.below hb XaP_7.out.lt)
  have Xw0_8 := Lib.hid (Xw0_7.out.below hb Xw0_7.out.lt)
  have Ux0 := Lib.hid ho.lt
  have Rx0_8 := Lib.hid ho.holds
  have hcapx0 : len0 ≤ cx0 := own_le ho.1
  clear ho hb
  have BW9 := Lib.hid (BW8.out.alloc BW8.out.size (.cells #[.int .i64 p0, .int .i64 q0, .slice Ax0 len0 cx0, .slice Bx0 m0 dx0, .slice Cx0 ll0 fx0] 29))
  have sz9 : Hid (w4.heap.size + 1 ≤ (w4.alloc (.cells #[.int .i64 p0, .int .i64 q0, .slice Ax0 len0 cx0, .slice Bx0 m0 dx0, .slice Cx0 ll0 fx0] 29)).heap.size) := Lib.hid (by simp)
  have Rw0_9 := Lib.hid (Rw0_8.out.alloc (.cells #[.int .i64 p0, .int .i64 q0, .slice Ax0 len0 cx0, .slice Bx0 m0 dx0, .slice Cx0 ll0 fx0] 29))
  have Rx0_9 := Lib.hid (Rx0_8.out.alloc (.cells #[.int .i64 p0, .int .i64 q0, .slice Ax0 len0 cx0, .slice Bx0 m0 dx0, .slice Cx0 ll0 fx0] 29))
  have XaP_9 := Lib.hid (XaP_8.out.alloc (.cells #[.int .i64 p0, .int .i64 q0, .slice Ax0 len0 cx0, .slice Bx0 m0 dx0, .slice Cx0 ll0 fx0] 29))
  have Xw0_9 := Lib.hid (Xw0_8.out.alloc (.cells #[.int .i64 p0, .int .i64 q0, .slice Ax0 len0 cx0, .slice Bx0 m0 dx0, .slice Cx0 ll0 fx0] 29))
  have Xx0_9 := Lib.hid (Box.new w4 29 #[.int .i64 p0, .int .i64 q0, .slice Ax0 len0 cx0, .slice Bx0 m0 dx0, .slice Cx0 ll0 fx0])
  go_wp2_with fail
  refine (toRatS_any a1 len1 cap1 z1 _ (Hz1.out.below BW9.out) (by omega)).mono ?_
  rintro e w5 ⟨V, Lx1, rfl, ho, hh, hb⟩
  have BW10 := Lib.hid (BW9.out.trans (hb.mono BW9.out.size))
  have sz10 : Hid ((w4.alloc (.cells #[.int .i64 p0, .int .i64 q0, .slice Ax0 len0 cx0, .slice Bx0 m0 dx0, .slice Cx0 ll0 fx0] 29)).heap.size ≤ w5.heap.size) := hb.size
  have Rw0_10 := Lib.hid (Rw0_9.out.below hb)
  have Rx0_10 := Lib.hid (Rx0_9.out.below hb)
  have XaP_10 := Lib.hid (XaP_9.out.below hb XaP_9.out.lt)
  have Xw0_10 := Lib.hid (Xw0_9.out.below hb Xw0_9.out.lt)
  have Xx0_10 := Lib.hid (Xx0_9.out.below hb Xx0_9.out.lt)
  obtain ⟨Ax1, cx1, rfl⟩ := ho.slice
  have Ux1 := Lib.hid ho.lt
  have Rx1_10 := Lib.hid ho.holds
  have HHx1 := Lib.hid hh
  obtain ⟨mx1, hmx1⟩ : ∃ m, m = mtot Lx1 := ⟨_, rfl⟩
  have Mx1 : Hid (mx1 = len1 + tot z1) := Lib.hid (by have := mtot_has hh; have := Hz1.out.1; omega)
  have Qx1 : Hid (mtot Lx1 = mx1) := hmx1.symm
  clear hmx1
  clear ho hh hb
  have ex00a : w5.cell? ⟨w4.heap.size, 0, none⟩ = some (.int .i64 p0) := Xx0_10.out.cell 0
  have ex01a : w5.cell? ⟨w4.heap.size, 1, none⟩ = some (.int .i64 q0) := Xx0_10.out.cell 1
  have ex02a : w5.cell? ⟨w4.heap.size, 2, none⟩ = some (.slice Ax0 len0 cx0) := Xx0_10.out.cell 2
  have ex03a : w5.cell? ⟨w4.heap.size, 3, none⟩ = some (.slice Bx0 m0 dx0) := Xx0_10.out.cell 3
  have ex04a : w5.cell? ⟨w4.heap.size, 4, none⟩ = some (.slice Cx0 ll0 fx0) := Xx0_10.out.cell 4
  go_wp2_with fail
  clear ex00a ex01a ex02a ex03a ex04a
  refine (impl_boundAt p0 q0 Ax0 len0 cx0 z0 Bx0 m0 dx0 y0 Cx0 ll0 fx0 yy0 Ax1 len1 cx1 z1 _ (pin Rx0_10 Inz0) Bp0 Bq0 hcapx0 (vin Rx1_10 HHx1 (by omega) Ftz1)).mono ?_
  rintro e w6 ⟨g2_0, r2_0, v0, q2_0, u0, r2_1, rfl, his, h0, k0, ap0, hb⟩
  have BW11 := Lib.hid (BW10.out.trans (hb.mono BW10.out.size))
  have sz11 : Hid (w5.heap.size ≤ w6.heap.size) := hb.size
  have Rw0_11 := Lib.hid (Rw0_10.out.below hb)
  have Rx0_11 := Lib.hid (Rx0_10.out.below hb)
  have Rx1_11 := Lib.hid (Rx1_10.out.below hb)
  have XaP_11 := Lib.hid (XaP_10.out.below hb XaP_10.out.lt)
  have Xw0_11 := Lib.hid (Xw0_10.out.below hb Xw0_10.out.lt)
  have Xx0_11 := Lib.hid (Xx0_10.out.below hb Xx0_10.out.lt)
  obtain ⟨rfl, rfl, rfl, rfl⟩ := boundAt_unique IS.out his
  clear his
  obtain ⟨_, h0⟩ := h0
  obtain ⟨_, k0⟩ := k0
  rw [HN0.out] at h0
  rw [HM0.out] at k0
  obtain ⟨Ag0, cg0, rfl⟩ := own_slice h0
  obtain ⟨Bg0, dg0, rfl⟩ := own_slice k0
  have ho : (ratEl g1_0 Ag0 N0 cg0 (r1_0.map (.int .i64)) Bg0 M0 dg0 (q1_0.map (.int .i64))).own w6 w5.heap.size := ⟨h0, k0, ap0⟩
  have Ug0 := Lib.hid ho.lt
  have Rg0_11 := Lib.hid ho.holds
  clear ho h0 k0 ap0
  clear hb
  have BW12 := Lib.hid (BW11.out.alloc BW11.out.size (.cells #[.bool g1_0, .slice Ag0 N0 cg0, .slice Bg0 M0 dg0] 39))
  have sz12 : Hid (w6.heap.size + 1 ≤ (w6.alloc (.cells #[.bool g1_0, .slice Ag0 N0 cg0, .slice Bg0 M0 dg0] 39)).heap.size) := Lib.hid (by simp)
  have Rw0_12 := Lib.hid (Rw0_11.out.alloc (.cells #[.bool g1_0, .slice Ag0 N0 cg0, .slice Bg0 M0 dg0] 39))
  have Rx0_12 := Lib.hid (Rx0_11.out.alloc (.cells #[.bool g1_0, .slice Ag0 N0 cg0, .slice Bg0 M0 dg0] 39))
  have Rx1_12 := Lib.hid (Rx1_11.out.alloc (.cells #[.bool g1_0, .slice Ag0 N0 cg0, .slice Bg0 M0 dg0] 39))
  have Rg0_12 := Lib.hid (Rg0_11.out.alloc (.cells #[.bool g1_0, .slice Ag0 N0 cg0, .slice Bg0 M0 dg0] 39))
  have XaP_12 := Lib.hid (XaP_11.out.alloc (.cells #[.bool g1_0, .slice Ag0 N0 cg0, .slice Bg0 M0 dg0] 39))
  have Xw0_12 := Lib.hid (Xw0_11.out.alloc (.cells #[.bool g1_0, .slice Ag0 N0 cg0, .slice Bg0 M0 dg0] 39))
  have Xx0_12 := Lib.hid (Xx0_11.out.alloc (.cells #[.bool g1_0, .slice Ag0 N0 cg0, .slice Bg0 M0 dg0] 39))
  have Xg0_12 := Lib.hid (Box.new w6 39 #[.bool g1_0, .slice Ag0 N0 cg0, .slice Bg0 M0 dg0])
  have ew00a : w6.cell? ⟨w3.heap.size, 0, none⟩ = some (.bool g1_0) := Xw0_11.out.cell 0
  have ew01a : w6.cell? ⟨w3.heap.size, 1, none⟩ = some (.slice Aw0 N0 cw0) := Xw0_11.out.cell 1
  have ew02a : w6.cell? ⟨w3.heap.size, 2, none⟩ = some (.slice Bw0 M0 dw0) := Xw0_11.out.cell 2
  have ew00b : (w6.alloc (.cells #[.bool g1_0, .slice Ag0 N0 cg0, .slice Bg0 M0 dg0] 39)).cell? ⟨w3.heap.size, 0, none⟩ = some (.bool g1_0) := Xw0_12.out.cell 0
  have ew01b : (w6.alloc (.cells #[.bool g1_0, .slice Ag0 N0 cg0, .slice Bg0 M0 dg0] 39)).cell? ⟨w3.heap.size, 1, none⟩ = some (.slice Aw0 N0 cw0) := Xw0_12.out.cell 1
  have ew02b : (w6.alloc (.cells #[.bool g1_0, .slice Ag0 N0 cg0, .slice Bg0 M0 dg0] 39)).cell? ⟨w3.heap.size, 2, none⟩ = some (.slice Bw0 M0 dw0) := Xw0_12.out.cell 2
  have new00 : w6.heap.size ≠ w3.heap.size := (by have := Xw0_11.out.lt; omega)
  go_wp2_with fail
  clear ew00a ew01a ew02a ew00b ew01b ew02b new00
  refine (eqRat_same g1_0 Ag0 Aw0 N0 cg0 cw0 r1_0 Bg0 Bw0 M0 dg0 dw0 q1_0 _ HN0.out (by unfold maxLen; omega) (Reads.of_own (row1 Rg0_12)) (Reads.of_own (row1 Rw0_12)) HM0.out (by unfold maxLen; omega) (Reads.of_own (row2 Rg0_12)) (Reads.of_own (row2 Rw0_12))).mono ?_
  rintro e w7 ⟨rfl, hb⟩
  have BW13 := Lib.hid (BW12.out.trans (hb.mono BW12.out.size))
  have sz13 : Hid ((w6.alloc (.cells #[.bool g1_0, .slice Ag0 N0 cg0, .slice Bg0 M0 dg0] 39)).heap.size ≤ w7.heap.size) := hb.size
  have Rw0_13 := Lib.hid (Rw0_12.out.below hb)
  have Rx0_13 := Lib.hid (Rx0_12.out.below hb)
  have Rx1_13 := Lib.hid (Rx1_12.out.below hb)
  have Rg0_13 := Lib.hid (Rg0_12.out.below hb)
  have XaP_13 := Lib.hid (XaP_12.out.below hb XaP_12.out.lt)
  have Xw0_13 := Lib.hid (Xw0_12.out.below hb Xw0_12.out.lt)
  have Xx0_13 := Lib.hid (Xx0_12.out.below hb Xx0_12.out.lt)
  have Xg0_13 := Lib.hid (Xg0_12.out.below hb Xg0_12.out.lt)
  clear hb
  go_wp2_with fail
  have BW14 := Lib.hid BW13.out.drew
  have sz14 : Hid (w7.heap.size ≤ w7.drew.heap.size) := Nat.le_refl _
  have Rw0_14 := Lib.hid Rw0_13.out.drew
  have Rx0_14 := Lib.hid Rx0_13.out.drew
  have Rx1_14 := Lib.hid Rx1_13.out.drew
  have Rg0_14 := Lib.hid Rg0_13.out.drew
  have XaP_14 := Lib.hid XaP_13.out.drew
  have Xw0_14 := Lib.hid Xw0_13.out.drew
  have Xx0_14 := Lib.hid Xx0_13.out.drew
  have Xg0_14 := Lib.hid Xg0_13.out.drew
  have cvx00 : Hid ((#[.int .i64 p0, .int .i64 q0, .slice Ax0 len0 cx0, .slice Bx0 m0 dx0, .slice Cx0 ll0 fx0] : Array Value)[0]? = some (.int .i64 p0)) := rfl
  have cvx01 : Hid ((#[.int .i64 p0, .int .i64 q0, .slice Ax0 len0 cx0, .slice Bx0 m0 dx0, .slice Cx0 ll0 fx0] : Array Value)[1]? = some (.int .i64 q0)) := rfl
  have cvx02 : Hid ((#[.int .i64 p0, .int .i64 q0, .slice Ax0 len0 cx0, .slice Bx0 m0 dx0, .slice Cx0 ll0 fx0] : Array Value)[2]? = some (.slice Ax0 len0 cx0)) := rfl
  have cvx03 : Hid ((#[.int .i64 p0, .int .i64 q0, .slice Ax0 len0 cx0, .slice Bx0 m0 dx0, .slice Cx0 ll0 fx0] : Array Value)[3]? = some (.slice Bx0 m0 dx0)) := rfl
  have cvx04 : Hid ((#[.int .i64 p0, .int .i64 q0, .slice Ax0 len0 cx0, .slice Bx0 m0 dx0, .slice Cx0 ll0 fx0] : Array Value)[4]? = some (.slice Cx0 ll0 fx0)) := rfl
  have cvaP0 : Hid ((#[.int .i64 p0, .int .i64 q0, .slice a0 len0 cap0, .slice b0 m0 d0, .slice ee0 ll0 ff0] : Array Value)[0]? = some (.int .i64 p0)) := rfl
  have cvaP1 : Hid ((#[.int .i64 p0, .int .i64 q0, .slice a0 len0 cap0, .slice b0 m0 d0, .slice ee0 ll0 ff0] : Array Value)[1]? = some (.int .i64 q0)) := rfl
  have cvaP2 : Hid ((#[.int .i64 p0, .int .i64 q0, .slice a0 len0 cap0, .slice b0 m0 d0, .slice ee0 ll0 ff0] : Array Value)[2]? = some (.slice a0 len0 cap0)) := rfl
  have cvaP3 : Hid ((#[.int .i64 p0, .int .i64 q0, .slice a0 len0 cap0, .slice b0 m0 d0, .slice ee0 ll0 ff0] : Array Value)[3]? = some (.slice b0 m0 d0)) := rfl
  have cvaP4 : Hid ((#[.int .i64 p0, .int .i64 q0, .slice a0 len0 cap0, .slice b0 m0 d0, .slice ee0 ll0 ff0] : Array Value)[4]? = some (.slice ee0 ll0 ff0)) := rfl
  go_region_held3 (fun w' => w'.cell? ⟨w4.heap.size, 0, none⟩ = some (.int .i64 p0) ∧ w'.cell? ⟨w4.heap.size, 1, none⟩ = some (.int .i64 q0) ∧ w'.cell? ⟨w4.heap.size, 2, none⟩ = some (.slice Ax0 len0 cx0) ∧ w'.cell? ⟨w4.heap.size, 3, none⟩ = some (.slice Bx0 m0 dx0) ∧ w'.cell? ⟨w4.heap.size, 4, none⟩ = some (.slice Cx0 ll0 fx0) ∧ w'.cell? ⟨w.heap.size, 0, none⟩ = some (.int .i64 p0) ∧ w'.cell? ⟨w.heap.size, 1, none⟩ = some (.int .i64 q0) ∧ w'.cell? ⟨w.heap.size, 2, none⟩ = some (.slice a0 len0 cap0) ∧ w'.cell? ⟨w.heap.size, 3, none⟩ = some (.slice b0 m0 d0) ∧ w'.cell? ⟨w.heap.size, 4, none⟩ = some (.slice ee0 ll0 ff0)) (first | with_reducible exact ⟨cellS Xx0_16 cvx00, cellS Xx0_16 cvx01, cellS Xx0_16 cvx02, cellS Xx0_16 cvx03, cellS Xx0_16 cvx04, cellS XaP_16 cvaP0, cellS XaP_16 cvaP1, cellS XaP_16 cvaP2, cellS XaP_16 cvaP3, cellS XaP_16 cvaP4⟩ | with_reducible exact ⟨cellS Xx0_15 cvx00, cellS Xx0_15 cvx01, cellS Xx0_15 cvx02, cellS Xx0_15 cvx03, cellS Xx0_15 cvx04, cellS XaP_15 cvaP0, cellS XaP_15 cvaP1, cellS XaP_15 cvaP2, cellS XaP_15 cvaP3, cellS XaP_15 cvaP4⟩ | with_reducible exact ⟨cellS Xx0_14 cvx00, cellS Xx0_14 cvx01, cellS Xx0_14 cvx02, cellS Xx0_14 cvx03, cellS Xx0_14 cvx04, cellS XaP_14 cvaP0, cellS XaP_14 cvaP1, cellS XaP_14 cvaP2, cellS XaP_14 cvaP3, cellS XaP_14 cvaP4⟩) (first | (go_at_call 19; refine (eqProgram_same p0 q0 Ax0 At3 len0 cx0 ct3 z0 Bx0 Bt3 m0 dx0 dt3 y0 Cx0 Ct3 ll0 fx0 ft3 yy0 _ (pin Rx0_15 Inz0) (pin Rt3_15 Inz0)).mono ?_; rintro e w9 ⟨rfl, hb⟩; have BW16 := Lib.hid (BW15.out.trans (hb.mono BW15.out.size)); have sz16 : Hid (w8.heap.size ≤ w9.heap.size) := hb.size; have Rw0_16 := Lib.hid (Rw0_15.out.below hb); have Rx0_16 := Lib.hid (Rx0_15.out.below hb); have Rx1_16 := Lib.hid (Rx1_15.out.below hb); have Rg0_16 := Lib.hid (Rg0_15.out.below hb); have Rt3_16 := Lib.hid (Rt3_15.out.below hb); have XaP_16 := Lib.hid (XaP_15.out.below hb XaP_15.out.lt); have Xw0_16 := Lib.hid (Xw0_15.out.below hb Xw0_15.out.lt); have Xx0_16 := Lib.hid (Xx0_15.out.below hb Xx0_15.out.lt); have Xg0_16 := Lib.hid (Xg0_15.out.below hb Xg0_15.out.lt); clear hb) | (go_at_call 16; refine (toProgram_any p0 q0 a0 len0 cap0 z0 b0 m0 d0 y0 ee0 ll0 ff0 yy0 _ (Inz0.out.below BW14.out)).mono ?_; rintro e w8 ⟨At3, ct3, Bt3, dt3, Ct3, ft3, rfl, ho, hb⟩; have BW15 := Lib.hid (BW14.out.trans (hb.mono BW14.out.size)); have sz15 : Hid (w7.drew.heap.size ≤ w8.heap.size) := hb.size; have Rw0_15 := Lib.hid (Rw0_14.out.below hb); have Rx0_15 := Lib.hid (Rx0_14.out.below hb); have Rx1_15 := Lib.hid (Rx1_14.out.below hb); have Rg0_15 := Lib.hid (Rg0_14.out.below hb); have XaP_15 := Lib.hid (XaP_14.out.below hb XaP_14.out.lt); have Xw0_15 := Lib.hid (Xw0_14.out.below hb Xw0_14.out.lt); have Xx0_15 := Lib.hid (Xx0_14.out.below hb Xx0_14.out.lt); have Xg0_15 := Lib.hid (Xg0_14.out.below hb Xg0_14.out.lt); have Ut3 := Lib.hid ho.lt; have Rt3_15 := Lib.hid ho.holds; have hcapt3 : len0 ≤ ct3 := own_le ho.1; clear ho hb))
  clear cvx00 cvx01 cvx02 cvx03 cvx04 cvaP0 cvaP1 cvaP2 cvaP3 cvaP4
  clear Rt3_16 Ut3
  go_wp2_with fail
  refine (toRatS_any a1 len1 cap1 z1 _ (Hz1.out.below BW16.out) (by omega)).mono ?_
  rintro e w10 ⟨V, Lt4, rfl, ho, hh, hb⟩
  have BW17 := Lib.hid (BW16.out.trans (hb.mono BW16.out.size))
  have sz17 : Hid (w9.heap.size ≤ w10.heap.size) := hb.size
  have Rw0_17 := Lib.hid (Rw0_16.out.below hb)
  have Rx0_17 := Lib.hid (Rx0_16.out.below hb)
  have Rx1_17 := Lib.hid (Rx1_16.out.below hb)
  have Rg0_17 := Lib.hid (Rg0_16.out.below hb)
  have XaP_17 := Lib.hid (XaP_16.out.below hb XaP_16.out.lt)
  have Xw0_17 := Lib.hid (Xw0_16.out.below hb Xw0_16.out.lt)
  have Xx0_17 := Lib.hid (Xx0_16.out.below hb Xx0_16.out.lt)
  have Xg0_17 := Lib.hid (Xg0_16.out.below hb Xg0_16.out.lt)
  obtain ⟨At4, ct4, rfl⟩ := ho.slice
  have Ut4 := Lib.hid ho.lt
  have Rt4_17 := Lib.hid ho.holds
  have HHt4 := Lib.hid hh
  obtain ⟨mt4, hmt4⟩ : ∃ m, m = mtot Lt4 := ⟨_, rfl⟩
  have Mt4 : Hid (mt4 = len1 + tot z1) := Lib.hid (by have := mtot_has hh; have := Hz1.out.1; omega)
  have Qt4 : Hid (mtot Lt4 = mt4) := hmt4.symm
  clear hmt4
  clear ho hh hb
  go_wp2_with fail
  refine (eqRatS_same Ax1 At4 len1 cx1 ct4 z1 _ (vin Rx1_17 HHx1 (by omega) Ftz1) (vin Rt4_17 HHt4 (by omega) Ftz1)).mono ?_
  rintro e w11 ⟨rfl, hb⟩
  have BW18 := Lib.hid (BW17.out.trans (hb.mono BW17.out.size))
  have sz18 : Hid (w10.heap.size ≤ w11.heap.size) := hb.size
  have Rw0_18 := Lib.hid (Rw0_17.out.below hb)
  have Rx0_18 := Lib.hid (Rx0_17.out.below hb)
  have Rx1_18 := Lib.hid (Rx1_17.out.below hb)
  have Rg0_18 := Lib.hid (Rg0_17.out.below hb)
  have Rt4_18 := Lib.hid (Rt4_17.out.below hb)
  have XaP_18 := Lib.hid (XaP_17.out.below hb XaP_17.out.lt)
  have Xw0_18 := Lib.hid (Xw0_17.out.below hb Xw0_17.out.lt)
  have Xx0_18 := Lib.hid (Xx0_17.out.below hb Xx0_17.out.lt)
  have Xg0_18 := Lib.hid (Xg0_17.out.below hb Xg0_17.out.lt)
  clear hb
  clear Rt4_18 Ut4
  have ex00a : w11.cell? ⟨w4.heap.size, 0, none⟩ = some (.int .i64 p0) := Xx0_18.out.cell 0
  have ex01a : w11.cell? ⟨w4.heap.size, 1, none⟩ = some (.int .i64 q0) := Xx0_18.out.cell 1
  have ex02a : w11.cell? ⟨w4.heap.size, 2, none⟩ = some (.slice Ax0 len0 cx0) := Xx0_18.out.cell 2
  have ex03a : w11.cell? ⟨w4.heap.size, 3, none⟩ = some (.slice Bx0 m0 dx0) := Xx0_18.out.cell 3
  have ex04a : w11.cell? ⟨w4.heap.size, 4, none⟩ = some (.slice Cx0 ll0 fx0) := Xx0_18.out.cell 4
  go_wp2_with fail
  clear ex00a ex01a ex02a ex03a ex04a
  refine (markProgram_own _ p0 q0 Ax0 len0 cx0 (1) z0 Bx0 m0 dx0 y0 Cx0 ll0 fx0 yy0 _ (by unfold maxLen; omega) (pnow Rx0_18)).mono ?_
  rintro e w12 ⟨rfl, ho, hW⟩
  have BW19 := Lib.hid (Wrote.below BW18.out hW (fun k hk => Nat.le_trans (Nat.le_trans (Nat.le_of_succ_le sz1.out) (Nat.le_trans sz2.out (Nat.le_trans sz3.out (Nat.le_trans sz4.out (Nat.le_trans sz5.out (Nat.le_trans sz6.out (Nat.le_of_succ_le sz7.out))))))) (Ux0.out k hk).1) (Nat.le_trans (Nat.le_of_succ_le sz1.out) (Nat.le_trans sz2.out (Nat.le_trans sz3.out (Nat.le_trans sz4.out (Nat.le_trans sz5.out (Nat.le_trans sz6.out (Nat.le_trans (Nat.le_of_succ_le sz7.out) (Nat.le_trans sz8.out (Nat.le_trans (Nat.le_of_succ_le sz9.out) (Nat.le_trans sz10.out (Nat.le_trans sz11.out (Nat.le_trans (Nat.le_of_succ_le sz12.out) (Nat.le_trans sz13.out (Nat.le_trans sz14.out (Nat.le_trans sz15.out (Nat.le_trans sz16.out (Nat.le_trans sz17.out sz18.out))))))))))))))))))
  have sz19 : Hid (w11.heap.size ≤ w12.heap.size) := hW.size
  have Rw0_19 := Lib.hid (Rw0_18.out.wrote hW (two_none Uw0 Ux0 (.inl (Nat.le_of_succ_le sz7.out))))
  have Rx1_19 := Lib.hid (Rx1_18.out.wrote hW (two_none Ux1 Ux0 (.inr (Nat.le_of_succ_le sz9.out))))
  have Rg0_19 := Lib.hid (Rg0_18.out.wrote hW (two_none Ug0 Ux0 (.inr (Nat.le_trans (Nat.le_of_succ_le sz9.out) sz10.out))))
  have XaP_19 := Lib.hid (XaP_18.out.wrote hW Ux0 (.inl (Nat.lt_of_lt_of_le (Nat.lt_of_succ_le sz1.out) (Nat.le_trans sz2.out (Nat.le_trans sz3.out (Nat.le_trans sz4.out (Nat.le_trans sz5.out (Nat.le_trans sz6.out (Nat.le_of_succ_le sz7.out)))))))))
  have Xw0_19 := Lib.hid (Xw0_18.out.wrote hW Ux0 (.inl (Nat.lt_of_lt_of_le (Nat.lt_of_succ_le sz7.out) (Nat.le_refl _))))
  have Xx0_19 := Lib.hid (Xx0_18.out.wrote hW Ux0 (.inr (Nat.le_refl _)))
  have Xg0_19 := Lib.hid (Xg0_18.out.wrote hW Ux0 (.inr (Nat.le_trans (Nat.le_of_succ_le sz9.out) (Nat.le_trans sz10.out sz11.out))))
  have Rx0_19 := Lib.hid ho.holds
  clear ho hW
  clear Rx0_19 Ux0 Xx0_19
  go_wp2_with fail
  refine (markRatS_m _ Ax1 len1 cx1 (1 + len0 + m0 + ll0) mx1 Lx1 z1 _ Qx1 (by have := Mx1.out; unfold maxLen; omega) (vnow Rx1_19) HHx1.out).mono ?_
  rintro e w13 ⟨rfl, ho, hW⟩
  have BW20 := Lib.hid (Wrote.below BW19.out hW (fun k hk => Nat.le_trans (Nat.le_trans (Nat.le_of_succ_le sz1.out) (Nat.le_trans sz2.out (Nat.le_trans sz3.out (Nat.le_trans sz4.out (Nat.le_trans sz5.out (Nat.le_trans sz6.out (Nat.le_trans (Nat.le_of_succ_le sz7.out) (Nat.le_trans sz8.out (Nat.le_of_succ_le sz9.out))))))))) (Ux1.out k hk).1) (Nat.le_trans (Nat.le_of_succ_le sz1.out) (Nat.le_trans sz2.out (Nat.le_trans sz3.out (Nat.le_trans sz4.out (Nat.le_trans sz5.out (Nat.le_trans sz6.out (Nat.le_trans (Nat.le_of_succ_le sz7.out) (Nat.le_trans sz8.out (Nat.le_trans (Nat.le_of_succ_le sz9.out) (Nat.le_trans sz10.out (Nat.le_trans sz11.out (Nat.le_trans (Nat.le_of_succ_le sz12.out) (Nat.le_trans sz13.out (Nat.le_trans sz14.out (Nat.le_trans sz15.out (Nat.le_trans sz16.out (Nat.le_trans sz17.out (Nat.le_trans sz18.out sz19.out)))))))))))))))))))
  have sz20 : Hid (w12.heap.size ≤ w13.heap.size) := hW.size
  have Rw0_20 := Lib.hid (Rw0_19.out.wrote hW (two_none Uw0 Ux1 (.inl (Nat.le_trans (Nat.le_of_succ_le sz7.out) (Nat.le_trans sz8.out (Nat.le_of_succ_le sz9.out))))))
  have Rg0_20 := Lib.hid (Rg0_19.out.wrote hW (two_none Ug0 Ux1 (.inr (Nat.le_refl _))))
  have XaP_20 := Lib.hid (XaP_19.out.wrote hW Ux1 (.inl (Nat.lt_of_lt_of_le (Nat.lt_of_succ_le sz1.out) (Nat.le_trans sz2.out (Nat.le_trans sz3.out (Nat.le_trans sz4.out (Nat.le_trans sz5.out (Nat.le_trans sz6.out (Nat.le_trans (Nat.le_of_succ_le sz7.out) (Nat.le_trans sz8.out (Nat.le_of_succ_le sz9.out)))))))))))
  have Xw0_20 := Lib.hid (Xw0_19.out.wrote hW Ux1 (.inl (Nat.lt_of_lt_of_le (Nat.lt_of_succ_le sz7.out) (Nat.le_trans sz8.out (Nat.le_of_succ_le sz9.out)))))
  have Xg0_20 := Lib.hid (Xg0_19.out.wrote hW Ux1 (.inr sz11.out))
  have Rx1_20 := Lib.hid ho.holds_marked
  clear ho hW
  clear Rx1_20 Ux1
  have eg00a : w13.cell? ⟨w6.heap.size, 0, none⟩ = some (.bool g1_0) := Xg0_20.out.cell 0
  have eg01a : w13.cell? ⟨w6.heap.size, 1, none⟩ = some (.slice Ag0 N0 cg0) := Xg0_20.out.cell 1
  have eg02a : w13.cell? ⟨w6.heap.size, 2, none⟩ = some (.slice Bg0 M0 dg0) := Xg0_20.out.cell 2
  have ew00a : w13.cell? ⟨w3.heap.size, 0, none⟩ = some (.bool g1_0) := Xw0_20.out.cell 0
  have ew01a : w13.cell? ⟨w3.heap.size, 1, none⟩ = some (.slice Aw0 N0 cw0) := Xw0_20.out.cell 1
  have ew02a : w13.cell? ⟨w3.heap.size, 2, none⟩ = some (.slice Bw0 M0 dw0) := Xw0_20.out.cell 2
  go_wp2_with fail
  clear eg00a eg01a eg02a ew00a ew01a ew02a
  refine (eqRat_same g1_0 Ag0 Aw0 N0 cg0 cw0 r1_0 Bg0 Bw0 M0 dg0 dw0 q1_0 _ HN0.out (by unfold maxLen; omega) (Reads.of_own (row1 Rg0_20)) (Reads.of_own (row1 Rw0_20)) HM0.out (by unfold maxLen; omega) (Reads.of_own (row2 Rg0_20)) (Reads.of_own (row2 Rw0_20))).mono ?_
  rintro e w14 ⟨rfl, hb⟩
  have BW21 := Lib.hid (BW20.out.trans (hb.mono BW20.out.size))
  have sz21 : Hid (w13.heap.size ≤ w14.heap.size) := hb.size
  have Rw0_21 := Lib.hid (Rw0_20.out.below hb)
  have Rg0_21 := Lib.hid (Rg0_20.out.below hb)
  have XaP_21 := Lib.hid (XaP_20.out.below hb XaP_20.out.lt)
  have Xw0_21 := Lib.hid (Xw0_20.out.below hb Xw0_20.out.lt)
  have Xg0_21 := Lib.hid (Xg0_20.out.below hb Xg0_20.out.lt)
  clear hb
  have eg00a : w14.cell? ⟨w6.heap.size, 0, none⟩ = some (.bool g1_0) := Xg0_21.out.cell 0
  have eg01a : w14.cell? ⟨w6.heap.size, 1, none⟩ = some (.slice Ag0 N0 cg0) := Xg0_21.out.cell 1
  have eg02a : w14.cell? ⟨w6.heap.size, 2, none⟩ = some (.slice Bg0 M0 dg0) := Xg0_21.out.cell 2
  go_wp2_with fail
  clear eg00a eg01a eg02a
  refine (markRat_el _ g1_0 Ag0 N0 cg0 _ Bg0 M0 dg0 _ (1) _ (by unfold maxLen; omega) (enow Rg0_21) (ints_are _) (ints_are _)).mono ?_
  rintro e w15 ⟨rfl, ho, hW⟩
  have BW22 := Lib.hid (Wrote.below BW21.out hW (fun k hk => Nat.le_trans (Nat.le_trans (Nat.le_of_succ_le sz1.out) (Nat.le_trans sz2.out (Nat.le_trans sz3.out (Nat.le_trans sz4.out (Nat.le_trans sz5.out (Nat.le_trans sz6.out (Nat.le_trans (Nat.le_of_succ_le sz7.out) (Nat.le_trans sz8.out (Nat.le_trans (Nat.le_of_succ_le sz9.out) sz10.out))))))))) (Ug0.out k hk).1) (Nat.le_trans (Nat.le_of_succ_le sz1.out) (Nat.le_trans sz2.out (Nat.le_trans sz3.out (Nat.le_trans sz4.out (Nat.le_trans sz5.out (Nat.le_trans sz6.out (Nat.le_trans (Nat.le_of_succ_le sz7.out) (Nat.le_trans sz8.out (Nat.le_trans (Nat.le_of_succ_le sz9.out) (Nat.le_trans sz10.out (Nat.le_trans sz11.out (Nat.le_trans (Nat.le_of_succ_le sz12.out) (Nat.le_trans sz13.out (Nat.le_trans sz14.out (Nat.le_trans sz15.out (Nat.le_trans sz16.out (Nat.le_trans sz17.out (Nat.le_trans sz18.out (Nat.le_trans sz19.out (Nat.le_trans sz20.out sz21.out)))))))))))))))))))))
  have sz22 : Hid (w14.heap.size ≤ w15.heap.size) := hW.size
  have Rw0_22 := Lib.hid (Rw0_21.out.wrote hW (two_none Uw0 Ug0 (.inl (Nat.le_trans (Nat.le_of_succ_le sz7.out) (Nat.le_trans sz8.out (Nat.le_trans (Nat.le_of_succ_le sz9.out) sz10.out))))))
  have XaP_22 := Lib.hid (XaP_21.out.wrote hW Ug0 (.inl (Nat.lt_of_lt_of_le (Nat.lt_of_succ_le sz1.out) (Nat.le_trans sz2.out (Nat.le_trans sz3.out (Nat.le_trans sz4.out (Nat.le_trans sz5.out (Nat.le_trans sz6.out (Nat.le_trans (Nat.le_of_succ_le sz7.out) (Nat.le_trans sz8.out (Nat.le_trans (Nat.le_of_succ_le sz9.out) sz10.out)))))))))))
  have Xw0_22 := Lib.hid (Xw0_21.out.wrote hW Ug0 (.inl (Nat.lt_of_lt_of_le (Nat.lt_of_succ_le sz7.out) (Nat.le_trans sz8.out (Nat.le_trans (Nat.le_of_succ_le sz9.out) sz10.out)))))
  have Xg0_22 := Lib.hid (Xg0_21.out.wrote hW Ug0 (.inr (Nat.le_refl _)))
  have Rg0_22 := Lib.hid (El.own.holds_foot (xs := (r1_0.map (.int .i64))) (ys := (q1_0.map (.int .i64))) ho)
  clear ho hW
  have eg00a : w15.cell? ⟨w6.heap.size, 0, none⟩ = some (.bool g1_0) := Xg0_22.out.cell 0
  have eg01a : w15.cell? ⟨w6.heap.size, 1, none⟩ = some (.slice Ag0 N0 cg0) := Xg0_22.out.cell 1
  have eg02a : w15.cell? ⟨w6.heap.size, 2, none⟩ = some (.slice Bg0 M0 dg0) := Xg0_22.out.cell 2
  go_wp2_with fail
  clear eg00a eg01a eg02a
  refine (heldRat_same g1_0 Ag0 N0 cg0 Bg0 M0 dg0 (1) _ (by unfold maxLen; omega) (Reads.of_own (row1 Rg0_22)) (Reads.of_own (row2 Rg0_22))).mono ?_
  rintro e w16 ⟨rfl, hb⟩
  have BW23 := Lib.hid (BW22.out.trans (hb.mono BW22.out.size))
  have sz23 : Hid (w15.heap.size ≤ w16.heap.size) := hb.size
  have Rw0_23 := Lib.hid (Rw0_22.out.below hb)
  have Rg0_23 := Lib.hid (Rg0_22.out.below hb)
  have XaP_23 := Lib.hid (XaP_22.out.below hb XaP_22.out.lt)
  have Xw0_23 := Lib.hid (Xw0_22.out.below hb Xw0_22.out.lt)
  have Xg0_23 := Lib.hid (Xg0_22.out.below hb Xg0_22.out.lt)
  clear hb
  have eaP0a : w16.cell? ⟨w.heap.size, 0, none⟩ = some (.int .i64 p0) := XaP_23.out.cell 0
  have eaP1a : w16.cell? ⟨w.heap.size, 1, none⟩ = some (.int .i64 q0) := XaP_23.out.cell 1
  have eaP2a : w16.cell? ⟨w.heap.size, 2, none⟩ = some (.slice a0 len0 cap0) := XaP_23.out.cell 2
  have eaP3a : w16.cell? ⟨w.heap.size, 3, none⟩ = some (.slice b0 m0 d0) := XaP_23.out.cell 3
  have eaP4a : w16.cell? ⟨w.heap.size, 4, none⟩ = some (.slice ee0 ll0 ff0) := XaP_23.out.cell 4
  go_wp2_with fail
  clear eaP0a eaP1a eaP2a eaP3a eaP4a
  refine (toProgram_any p0 q0 a0 len0 cap0 z0 b0 m0 d0 y0 ee0 ll0 ff0 yy0 _ (Inz0.out.below BW23.out)).mono ?_
  rintro e w17 ⟨At5, ct5, Bt5, dt5, Ct5, ft5, rfl, ho, hb⟩
  have BW24 := Lib.hid (BW23.out.trans (hb.mono BW23.out.size))
  have sz24 : Hid (w16.heap.size ≤ w17.heap.size) := hb.size
  have Rw0_24 := Lib.hid (Rw0_23.out.below hb)
  have Rg0_24 := Lib.hid (Rg0_23.out.below hb)
  have XaP_24 := Lib.hid (XaP_23.out.below hb XaP_23.out.lt)
  have Xw0_24 := Lib.hid (Xw0_23.out.below hb Xw0_23.out.lt)
  have Xg0_24 := Lib.hid (Xg0_23.out.below hb Xg0_23.out.lt)
  have Ut5 := Lib.hid ho.lt
  have Rt5_24 := Lib.hid ho.holds
  have hcapt5 : len0 ≤ ct5 := own_le ho.1
  clear ho hb
  go_wp2_with fail
  refine (toRatS_any a1 len1 cap1 z1 _ (Hz1.out.below BW24.out) (by omega)).mono ?_
  rintro e w18 ⟨V, Lt6, rfl, ho, hh, hb⟩
  have BW25 := Lib.hid (BW24.out.trans (hb.mono BW24.out.size))
  have sz25 : Hid (w17.heap.size ≤ w18.heap.size) := hb.size
  have Rw0_25 := Lib.hid (Rw0_24.out.below hb)
  have Rg0_25 := Lib.hid (Rg0_24.out.below hb)
  have Rt5_25 := Lib.hid (Rt5_24.out.below hb)
  have XaP_25 := Lib.hid (XaP_24.out.below hb XaP_24.out.lt)
  have Xw0_25 := Lib.hid (Xw0_24.out.below hb Xw0_24.out.lt)
  have Xg0_25 := Lib.hid (Xg0_24.out.below hb Xg0_24.out.lt)
  obtain ⟨At6, ct6, rfl⟩ := ho.slice
  have Ut6 := Lib.hid ho.lt
  have Rt6_25 := Lib.hid ho.holds
  have HHt6 := Lib.hid hh
  obtain ⟨mt6, hmt6⟩ : ∃ m, m = mtot Lt6 := ⟨_, rfl⟩
  have Mt6 : Hid (mt6 = len1 + tot z1) := Lib.hid (by have := mtot_has hh; have := Hz1.out.1; omega)
  have Qt6 : Hid (mtot Lt6 = mt6) := hmt6.symm
  clear hmt6
  clear ho hh hb
  go_wp2_with fail
  refine (impl_boundAt p0 q0 At5 len0 ct5 z0 Bt5 m0 dt5 y0 Ct5 ll0 ft5 yy0 At6 len1 ct6 z1 _ (pin Rt5_25 Inz0) Bp0 Bq0 hcapt5 (vin Rt6_25 HHt6 (by omega) Ftz1)).mono ?_
  rintro e w19 ⟨g3_0, r3_0, v0, q3_0, u0, r3_1, rfl, his, h0, k0, ap0, hb⟩
  have BW26 := Lib.hid (BW25.out.trans (hb.mono BW25.out.size))
  have sz26 : Hid (w18.heap.size ≤ w19.heap.size) := hb.size
  have Rw0_26 := Lib.hid (Rw0_25.out.below hb)
  have Rg0_26 := Lib.hid (Rg0_25.out.below hb)
  have Rt5_26 := Lib.hid (Rt5_25.out.below hb)
  have Rt6_26 := Lib.hid (Rt6_25.out.below hb)
  have XaP_26 := Lib.hid (XaP_25.out.below hb XaP_25.out.lt)
  have Xw0_26 := Lib.hid (Xw0_25.out.below hb Xw0_25.out.lt)
  have Xg0_26 := Lib.hid (Xg0_25.out.below hb Xg0_25.out.lt)
  obtain ⟨rfl, rfl, rfl, rfl⟩ := boundAt_unique IS.out his
  clear his
  obtain ⟨_, h0⟩ := h0
  obtain ⟨_, k0⟩ := k0
  rw [HN0.out] at h0
  rw [HM0.out] at k0
  obtain ⟨Ah0, ch0, rfl⟩ := own_slice h0
  obtain ⟨Bh0, dh0, rfl⟩ := own_slice k0
  have ho : (ratEl g1_0 Ah0 N0 ch0 (r1_0.map (.int .i64)) Bh0 M0 dh0 (q1_0.map (.int .i64))).own w19 w18.heap.size := ⟨h0, k0, ap0⟩
  have Uh0 := Lib.hid ho.lt
  have Rh0_26 := Lib.hid ho.holds
  clear ho h0 k0 ap0
  clear hb
  clear Rt5_26 Ut5
  clear Rt6_26 Ut6
  have BW27 := Lib.hid (BW26.out.alloc BW26.out.size (.cells #[.bool g1_0, .slice Ah0 N0 ch0, .slice Bh0 M0 dh0] 39))
  have sz27 : Hid (w19.heap.size + 1 ≤ (w19.alloc (.cells #[.bool g1_0, .slice Ah0 N0 ch0, .slice Bh0 M0 dh0] 39)).heap.size) := Lib.hid (by simp)
  have Rw0_27 := Lib.hid (Rw0_26.out.alloc (.cells #[.bool g1_0, .slice Ah0 N0 ch0, .slice Bh0 M0 dh0] 39))
  have Rg0_27 := Lib.hid (Rg0_26.out.alloc (.cells #[.bool g1_0, .slice Ah0 N0 ch0, .slice Bh0 M0 dh0] 39))
  have Rh0_27 := Lib.hid (Rh0_26.out.alloc (.cells #[.bool g1_0, .slice Ah0 N0 ch0, .slice Bh0 M0 dh0] 39))
  have XaP_27 := Lib.hid (XaP_26.out.alloc (.cells #[.bool g1_0, .slice Ah0 N0 ch0, .slice Bh0 M0 dh0] 39))
  have Xw0_27 := Lib.hid (Xw0_26.out.alloc (.cells #[.bool g1_0, .slice Ah0 N0 ch0, .slice Bh0 M0 dh0] 39))
  have Xg0_27 := Lib.hid (Xg0_26.out.alloc (.cells #[.bool g1_0, .slice Ah0 N0 ch0, .slice Bh0 M0 dh0] 39))
  have Xh0_27 := Lib.hid (Box.new w19 39 #[.bool g1_0, .slice Ah0 N0 ch0, .slice Bh0 M0 dh0])
  have ew00a : w19.cell? ⟨w3.heap.size, 0, none⟩ = some (.bool g1_0) := Xw0_26.out.cell 0
  have ew01a : w19.cell? ⟨w3.heap.size, 1, none⟩ = some (.slice Aw0 N0 cw0) := Xw0_26.out.cell 1
  have ew02a : w19.cell? ⟨w3.heap.size, 2, none⟩ = some (.slice Bw0 M0 dw0) := Xw0_26.out.cell 2
  have ew00b : (w19.alloc (.cells #[.bool g1_0, .slice Ah0 N0 ch0, .slice Bh0 M0 dh0] 39)).cell? ⟨w3.heap.size, 0, none⟩ = some (.bool g1_0) := Xw0_27.out.cell 0
  have ew01b : (w19.alloc (.cells #[.bool g1_0, .slice Ah0 N0 ch0, .slice Bh0 M0 dh0] 39)).cell? ⟨w3.heap.size, 1, none⟩ = some (.slice Aw0 N0 cw0) := Xw0_27.out.cell 1
  have ew02b : (w19.alloc (.cells #[.bool g1_0, .slice Ah0 N0 ch0, .slice Bh0 M0 dh0] 39)).cell? ⟨w3.heap.size, 2, none⟩ = some (.slice Bw0 M0 dw0) := Xw0_27.out.cell 2
  have new00 : w19.heap.size ≠ w3.heap.size := (by have := Xw0_26.out.lt; omega)
  go_wp2_with fail
  clear ew00a ew01a ew02a ew00b ew01b ew02b new00
  refine (eqRat_same g1_0 Ah0 Aw0 N0 ch0 cw0 r1_0 Bh0 Bw0 M0 dh0 dw0 q1_0 _ HN0.out (by unfold maxLen; omega) (Reads.of_own (row1 Rh0_27)) (Reads.of_own (row1 Rw0_27)) HM0.out (by unfold maxLen; omega) (Reads.of_own (row2 Rh0_27)) (Reads.of_own (row2 Rw0_27))).mono ?_
  rintro e w20 ⟨rfl, hb⟩
  have BW28 := Lib.hid (BW27.out.trans (hb.mono BW27.out.size))
  have sz28 : Hid ((w19.alloc (.cells #[.bool g1_0, .slice Ah0 N0 ch0, .slice Bh0 M0 dh0] 39)).heap.size ≤ w20.heap.size) := hb.size
  have Rw0_28 := Lib.hid (Rw0_27.out.below hb)
  have Rg0_28 := Lib.hid (Rg0_27.out.below hb)
  have Rh0_28 := Lib.hid (Rh0_27.out.below hb)
  have XaP_28 := Lib.hid (XaP_27.out.below hb XaP_27.out.lt)
  have Xw0_28 := Lib.hid (Xw0_27.out.below hb Xw0_27.out.lt)
  have Xg0_28 := Lib.hid (Xg0_27.out.below hb Xg0_27.out.lt)
  have Xh0_28 := Lib.hid (Xh0_27.out.below hb Xh0_27.out.lt)
  clear hb
  clear Rw0_28 Uw0 Xw0_28
  clear Rh0_28 Uh0 Xh0_28
  have eg00a : w20.cell? ⟨w6.heap.size, 0, none⟩ = some (.bool g1_0) := Xg0_28.out.cell 0
  have eg01a : w20.cell? ⟨w6.heap.size, 1, none⟩ = some (.slice Ag0 N0 cg0) := Xg0_28.out.cell 1
  have eg02a : w20.cell? ⟨w6.heap.size, 2, none⟩ = some (.slice Bg0 M0 dg0) := Xg0_28.out.cell 2
  go_wp2_with fail
  clear eg00a eg01a eg02a
  refine (heldRat_same g1_0 Ag0 N0 cg0 Bg0 M0 dg0 (1) _ (by unfold maxLen; omega) (Reads.of_own (row1 Rg0_28)) (Reads.of_own (row2 Rg0_28))).mono ?_
  rintro e w21 ⟨rfl, hb⟩
  have BW29 := Lib.hid (BW28.out.trans (hb.mono BW28.out.size))
  have sz29 : Hid (w20.heap.size ≤ w21.heap.size) := hb.size
  have Rg0_29 := Lib.hid (Rg0_28.out.below hb)
  have XaP_29 := Lib.hid (XaP_28.out.below hb XaP_28.out.lt)
  have Xg0_29 := Lib.hid (Xg0_28.out.below hb Xg0_28.out.lt)
  clear hb
  clear Rg0_29 Ug0 Xg0_29
  go_wp2_with fail
  go_ret
  exact ⟨rfl, BW29.out⟩
end Go.Proofs.YtjohglkfcefimaaGreat.fnExactBoundAt
