/- The walk of the law: for all arguments the law FnExactDualProgram returns true: the program's DualProgram answers as the model's; no condition on them. -/
import Derived.Test.YtcmbfgaojlnjcaaLpM
import Derived.Test.YtcmbfgaojlnjcaaFarL
import Derived.ProofKit
import Derived.OpenShut
import Derived.ShutString
import Derived.Lib.SmallJoins
namespace Go.Proofs.Ytcmbfgaojlnjcaa.fnExactDualProgram
set_option maxRecDepth 100000
open Go.ChangeShapes Go.WideShapes Go.ChangeAt Go.RowKit Go.Joins Go.Deep
open Go.ChangeMaps (open_string shut_string)

set_option maxRecDepth 100000 in
set_option maxHeartbeats 16000000 in
theorem walk {w : World} (p0 : Int) (hp0 : (Lit.int .i64 p0).wf = true) (q0 : Int) (hq0 : (Lit.int .i64 q0).wf = true) (a0 : Option Addr) (len0 cap0 : Nat) (z0 : List Int) (hz0 : IsInts w a0 len0 z0) (b0 : Option Addr) (m0 d0 : Nat) (y0 : List Int) (hy0 : IsInts w b0 m0 y0) (ee0 : Option Addr) (ll0 ff0 : Nat) (yy0 : List Int) (hyy0 : IsInts w ee0 ll0 yy0) :
    Calls Try.prog 4 #[.agg #[.int .i64 p0, .int .i64 q0, .slice a0 len0 cap0, .slice b0 m0 d0, .slice ee0 ll0 ff0]] w fun e w' => e = .returned (.bool true) ∧ Below w.heap.size w w' := by
  have Bp0 := bounds_i64 hp0
  clear hp0
  have Bq0 := bounds_i64 hq0
  clear hq0
  have hmz0 : len0 ≤ maxLen := hz0.2.1
  have Hz0 := Lib.hid hz0
  clear hz0
  have hmy0 : m0 ≤ maxLen := hy0.2.1
  have Hy0 := Lib.hid hy0
  clear hy0
  have hmyy0 : ll0 ≤ maxLen := hyy0.2.1
  have Hyy0 := Lib.hid hyy0
  clear hyy0
  have BW0 : Hid (Below w.heap.size w w) := Below.refl _ _
  have BW1 := Lib.hid (BW0.out.alloc BW0.out.size (.cells #[.int .i64 p0, .int .i64 q0, .slice a0 len0 cap0, .slice b0 m0 d0, .slice ee0 ll0 ff0] 24))
  have sz1 : Hid (w.heap.size + 1 ≤ (w.alloc (.cells #[.int .i64 p0, .int .i64 q0, .slice a0 len0 cap0, .slice b0 m0 d0, .slice ee0 ll0 ff0] 24)).heap.size) := Lib.hid (by simp)
  have XaP_1 := Lib.hid (Box.new w 24 #[.int .i64 p0, .int .i64 q0, .slice a0 len0 cap0, .slice b0 m0 d0, .slice ee0 ll0 ff0])
  go_enter Try.func4, Try.ntmps4
  have eaP0a : (w.alloc (.cells #[.int .i64 p0, .int .i64 q0, .slice a0 len0 cap0, .slice b0 m0 d0, .slice ee0 ll0 ff0] 24)).cell? ⟨w.heap.size, 0, none⟩ = some (.int .i64 p0) := XaP_1.out.cell 0
  have eaP1a : (w.alloc (.cells #[.int .i64 p0, .int .i64 q0, .slice a0 len0 cap0, .slice b0 m0 d0, .slice ee0 ll0 ff0] 24)).cell? ⟨w.heap.size, 1, none⟩ = some (.int .i64 q0) := XaP_1.out.cell 1
  have eaP2a : (w.alloc (.cells #[.int .i64 p0, .int .i64 q0, .slice a0 len0 cap0, .slice b0 m0 d0, .slice ee0 ll0 ff0] 24)).cell? ⟨w.heap.size, 2, none⟩ = some (.slice a0 len0 cap0) := XaP_1.out.cell 2
  have eaP3a : (w.alloc (.cells #[.int .i64 p0, .int .i64 q0, .slice a0 len0 cap0, .slice b0 m0 d0, .slice ee0 ll0 ff0] 24)).cell? ⟨w.heap.size, 3, none⟩ = some (.slice b0 m0 d0) := XaP_1.out.cell 3
  have eaP4a : (w.alloc (.cells #[.int .i64 p0, .int .i64 q0, .slice a0 len0 cap0, .slice b0 m0 d0, .slice ee0 ll0 ff0] 24)).cell? ⟨w.heap.size, 4, none⟩ = some (.slice ee0 ll0 ff0) := XaP_1.out.cell 4
  go_wp2_with fail
  clear eaP0a eaP1a eaP2a eaP3a eaP4a
  refine (szProgram_any p0 q0 a0 len0 cap0 b0 m0 d0 ee0 ll0 ff0 (1048576 : Int) _ hmz0 hmy0 hmyy0 (by omega) (by omega)).mono ?_
  rintro e ws0 ⟨lf0, rfl, hr, hb⟩
  have BW2 := Lib.hid (BW1.out.trans (hb.mono BW1.out.size))
  have sz2 : Hid ((w.alloc (.cells #[.int .i64 p0, .int .i64 q0, .slice a0 len0 cap0, .slice b0 m0 d0, .slice ee0 ll0 ff0] 24)).heap.size ≤ ws0.heap.size) := hb.size
  have XaP_2 := Lib.hid (XaP_1.out.below hb XaP_1.out.lt)
  clear hb
  rcases hr with rfl | ⟨h0, hr⟩
  · go_wp2_with fail
    go_ret
    exact ⟨rfl, BW2.out⟩
  have lb0 : 0 ≤ lf0 ∧ lf0 ≤ 1048576 := by omega
  have ls0 : lf0 + ((len0 : Int) + m0 + ll0) = (1048576 : Int) := by omega
  have HLS0 := Lib.hid ls0
  have lt0 : len0 + m0 + ll0 ≤ 1048576 := by omega
  clear ls0 hr
  have h00 := h0
  clear h0
  have Inz0 : Hid (InP w a0 len0 z0 b0 m0 y0 ee0 ll0 yy0) := ⟨Hz0.out.inI (by omega), Hy0.out.inI (by omega), Hyy0.out.inI (by omega)⟩
  have eaP0a : ws0.cell? ⟨w.heap.size, 0, none⟩ = some (.int .i64 p0) := XaP_2.out.cell 0
  have eaP1a : ws0.cell? ⟨w.heap.size, 1, none⟩ = some (.int .i64 q0) := XaP_2.out.cell 1
  have eaP2a : ws0.cell? ⟨w.heap.size, 2, none⟩ = some (.slice a0 len0 cap0) := XaP_2.out.cell 2
  have eaP3a : ws0.cell? ⟨w.heap.size, 3, none⟩ = some (.slice b0 m0 d0) := XaP_2.out.cell 3
  have eaP4a : ws0.cell? ⟨w.heap.size, 4, none⟩ = some (.slice ee0 ll0 ff0) := XaP_2.out.cell 4
  go_wp2_with fail
  clear eaP0a eaP1a eaP2a eaP3a eaP4a
  refine (toProgram_any p0 q0 a0 len0 cap0 z0 b0 m0 d0 y0 ee0 ll0 ff0 yy0 _ (Inz0.out.below BW2.out)).mono ?_
  rintro e w1 ⟨At1, ct1, Bt1, dt1, Ct1, ft1, rfl, ho, hb⟩
  have BW3 := Lib.hid (BW2.out.trans (hb.mono BW2.out.size))
  have sz3 : Hid (ws0.heap.size ≤ w1.heap.size) := hb.size
  have XaP_3 := Lib.hid (XaP_2.out.below hb XaP_2.out.lt)
  have Ut1 := Lib.hid ho.lt
  have Rt1_3 := Lib.hid ho.holds
  have hcapt1 : len0 ≤ ct1 := own_le ho.1
  clear ho hb
  go_wp2_with fail
  refine (spec_dualProgram p0 q0 At1 len0 ct1 z0 Bt1 m0 dt1 y0 Ct1 ll0 ft1 yy0 _ (pin Rt1_3 Inz0) Bp0 Bq0 hcapt1).mono ?_
  rintro e w2 ⟨p1_0, q1_0, r1_0, v0, s1_0, u0, t1_0, x0, rfl, his, h0, hb⟩
  have BW4 := Lib.hid (BW3.out.trans (hb.mono BW3.out.size))
  have sz4 : Hid (w1.heap.size ≤ w2.heap.size) := hb.size
  have Rt1_4 := Lib.hid (Rt1_3.out.below hb)
  have XaP_4 := Lib.hid (XaP_3.out.below hb XaP_3.out.lt)
  have IS := Lib.hid his
  clear his
  obtain ⟨⟨⟨_, h0⟩, ⟨_, k0⟩, ⟨_, j0⟩, ap1, ap2, ap3, i1, i2, i3⟩, hl, hm, hk⟩ := h0
  obtain ⟨N0, hN⟩ : ∃ N, N = r1_0.length := ⟨_, rfl⟩
  rw [← hN] at hl h0
  have HN0 : Hid (r1_0.length = N0) := hN.symm
  have hl0 := hl
  clear hN hl
  obtain ⟨M0, hN⟩ : ∃ N, N = s1_0.length := ⟨_, rfl⟩
  rw [← hN] at hm k0
  have HM0 : Hid (s1_0.length = M0) := hN.symm
  have hm0 := hm
  clear hN hm
  obtain ⟨K0, hN⟩ : ∃ N, N = t1_0.length := ⟨_, rfl⟩
  rw [← hN] at hk j0
  have HK0 : Hid (t1_0.length = K0) := hN.symm
  have hk0 := hk
  clear hN hk
  have Fp0 : Hid (PFits N0 r1_0 M0 s1_0 K0 t1_0) := ⟨HN0.out, HM0.out, HK0.out, i1, i2, i3⟩
  clear i1 i2 i3
  obtain ⟨Aw0, cw0, rfl⟩ := own_slice h0
  obtain ⟨Bw0, dw0, rfl⟩ := own_slice k0
  obtain ⟨Cw0, fw0, rfl⟩ := own_slice j0
  have ho : OwnP w2 w1.heap.size Aw0 N0 cw0 (r1_0.map (.int .i64)) Bw0 M0 dw0 (s1_0.map (.int .i64)) Cw0 K0 fw0 (t1_0.map (.int .i64)) := ⟨h0, k0, j0, ap1, ap2, ap3⟩
  have Uw0 := Lib.hid ho.lt
  have Rw0_4 := Lib.hid ho.holds
  clear ho h0 k0 j0 ap1 ap2 ap3
  clear hb
  clear Rt1_4 Ut1
  have BW5 := Lib.hid (BW4.out.alloc BW4.out.size (.cells #[.int .i64 p1_0, .int .i64 q1_0, .slice Aw0 N0 cw0, .slice Bw0 M0 dw0, .slice Cw0 K0 fw0] 26))
  have sz5 : Hid (w2.heap.size + 1 ≤ (w2.alloc (.cells #[.int .i64 p1_0, .int .i64 q1_0, .slice Aw0 N0 cw0, .slice Bw0 M0 dw0, .slice Cw0 K0 fw0] 26)).heap.size) := Lib.hid (by simp)
  have Rw0_5 := Lib.hid (Rw0_4.out.alloc (.cells #[.int .i64 p1_0, .int .i64 q1_0, .slice Aw0 N0 cw0, .slice Bw0 M0 dw0, .slice Cw0 K0 fw0] 26))
  have XaP_5 := Lib.hid (XaP_4.out.alloc (.cells #[.int .i64 p1_0, .int .i64 q1_0, .slice Aw0 N0 cw0, .slice Bw0 M0 dw0, .slice Cw0 K0 fw0] 26))
  have Xw0_5 := Lib.hid (Box.new w2 26 #[.int .i64 p1_0, .int .i64 q1_0, .slice Aw0 N0 cw0, .slice Bw0 M0 dw0, .slice Cw0 K0 fw0])
  have eaP0a : w2.cell? ⟨w.heap.size, 0, none⟩ = some (.int .i64 p0) := XaP_4.out.cell 0
  have eaP1a : w2.cell? ⟨w.heap.size, 1, none⟩ = some (.int .i64 q0) := XaP_4.out.cell 1
  have eaP2a : w2.cell? ⟨w.heap.size, 2, none⟩ = some (.slice a0 len0 cap0) := XaP_4.out.cell 2
  have eaP3a : w2.cell? ⟨w.heap.size, 3, none⟩ = some (.slice b0 m0 d0) := XaP_4.out.cell 3
  have eaP4a : w2.cell? ⟨w.heap.size, 4, none⟩ = some (.slice ee0 ll0 ff0) := XaP_4.out.cell 4
  have eaP0b : (w2.alloc (.cells #[.int .i64 p1_0, .int .i64 q1_0, .slice Aw0 N0 cw0, .slice Bw0 M0 dw0, .slice Cw0 K0 fw0] 26)).cell? ⟨w.heap.size, 0, none⟩ = some (.int .i64 p0) := XaP_5.out.cell 0
  have eaP1b : (w2.alloc (.cells #[.int .i64 p1_0, .int .i64 q1_0, .slice Aw0 N0 cw0, .slice Bw0 M0 dw0, .slice Cw0 K0 fw0] 26)).cell? ⟨w.heap.size, 1, none⟩ = some (.int .i64 q0) := XaP_5.out.cell 1
  have eaP2b : (w2.alloc (.cells #[.int .i64 p1_0, .int .i64 q1_0, .slice Aw0 N0 cw0, .slice Bw0 M0 dw0, .slice Cw0 K0 fw0] 26)).cell? ⟨w.heap.size, 2, none⟩ = some (.slice a0 len0 cap0) := XaP_5.out.cell 2
  have eaP3b : (w2.alloc (.cells #[.int .i64 p1_0, .int .i64 q1_0, .slice Aw0 N0 cw0, .slice Bw0 M0 dw0, .slice Cw0 K0 fw0] 26)).cell? ⟨w.heap.size, 3, none⟩ = some (.slice b0 m0 d0) := XaP_5.out.cell 3
  have eaP4b : (w2.alloc (.cells #[.int .i64 p1_0, .int .i64 q1_0, .slice Aw0 N0 cw0, .slice Bw0 M0 dw0, .slice Cw0 K0 fw0] 26)).cell? ⟨w.heap.size, 4, none⟩ = some (.slice ee0 ll0 ff0) := XaP_5.out.cell 4
  have neaP0 : w2.heap.size ≠ w.heap.size := (by have := XaP_4.out.lt; omega)
  go_wp2_with fail
  clear eaP0a eaP1a eaP2a eaP3a eaP4a eaP0b eaP1b eaP2b eaP3b eaP4b neaP0
  refine (toProgram_any p0 q0 a0 len0 cap0 z0 b0 m0 d0 y0 ee0 ll0 ff0 yy0 _ (Inz0.out.below BW5.out)).mono ?_
  rintro e w3 ⟨Ax0, cx0, Bx0, dx0, Cx0, fx0, rfl, ho, hb⟩
  have BW6 := Lib.hid (BW5.out.trans (hb.mono BW5.out.size))
  have sz6 : Hid ((w2.alloc (.cells #[.int .i64 p1_0, .int .i64 q1_0, .slice Aw0 N0 cw0, .slice Bw0 M0 dw0, .slice Cw0 K0 fw0] 26)).heap.size ≤ w3.heap.size) := hb.size
  have Rw0_6 := Lib.hid (Rw0_5.out.below hb)
  have XaP_6 := Lib.hid (XaP_5.out.below hb XaP_5.out.lt)
  have Xw0_6 := Lib.hid (Xw0_5.out.below hb Xw0_5.out.lt)
  have Ux0 := Lib.hid ho.lt
  have Rx0_6 := Lib.hid ho.holds
  have hcapx0 : len0 ≤ cx0 := own_le ho.1
  clear ho hb
  have BW7 := Lib.hid (BW6.out.alloc BW6.out.size (.cells #[.int .i64 p0, .int .i64 q0, .slice Ax0 len0 cx0, .slice Bx0 m0 dx0, .slice Cx0 ll0 fx0] 26))
  have sz7 : Hid (w3.heap.size + 1 ≤ (w3.alloc (.cells #[.int .i64 p0, .int .i64 q0, .slice Ax0 len0 cx0, .slice Bx0 m0 dx0, .slice Cx0 ll0 fx0] 26)).heap.size) := Lib.hid (by simp)
  have Rw0_7 := Lib.hid (Rw0_6.out.alloc (.cells #[.int .i64 p0, .int .i64 q0, .slice Ax0 len0 cx0, .slice Bx0 m0 dx0, .slice Cx0 ll0 fx0] 26))
  have Rx0_7 := Lib.hid (Rx0_6.out.alloc (.cells #[.int .i64 p0, .int .i64 q0, .slice Ax0 len0 cx0, .slice Bx0 m0 dx0, .slice Cx0 ll0 fx0] 26))
  have XaP_7 := Lib.hid (XaP_6.out.alloc (.cells #[.int .i64 p0, .int .i64 q0, .slice Ax0 len0 cx0, .slice Bx0 m0 dx0, .slice Cx0 ll0 fx0] 26))
  have Xw0_7 := Lib.hid (Xw0_6.out.alloc (.cells #[.int .i64 p0, .int .i64 q0, .slice Ax0 len0 cx0, .slice Bx0 m0 dx0, .slice Cx0 ll0 fx0] 26))
  have Xx0_7 := Lib.hid (Box.new w3 26 #[.int .i64 p0, .int .i64 q0, .slice Ax0 len0 cx0, .slice Bx0 m0 dx0, .slice Cx0 ll0 fx0])
  go_wp2_with fail
  refine (impl_dualProgram p0 q0 Ax0 len0 cx0 z0 Bx0 m0 dx0 y0 Cx0 ll0 fx0 yy0 _ (pin Rx0_7 Inz0) Bp0 Bq0 hcapx0).mono ?_
  rintro e w4 ⟨p2_0, q2_0, r2_0, v0, s2_0, u0, t2_0, x0, rfl, his, h0, hb⟩
  have BW8 := Lib.hid (BW7.out.trans (hb.mono BW7.out.size))
  have sz8 : Hid ((w3.alloc (.cells #[.int .i64 p0, .int .i64 q0, .slice Ax0 len0 cx0, .slice Bx0 m0 dx0, .slice Cx0 ll0 fx0] 26)).heap.size ≤ w4.heap.size) := hb.size
  have Rw0_8 := Lib.hid (Rw0_7.out.below hb)
  have Rx0_8 := Lib.hid (Rx0_7.out.below hb)
  have XaP_8 := Lib.hid (XaP_7.out.below hb XaP_7.out.lt)
  have Xw0_8 := Lib.hid (Xw0_7.out.below hb Xw0_7.out.lt)
  have Xx0_8 := Lib.hid (Xx0_7.out.below hb Xx0_7.out.lt)
  obtain ⟨rfl, rfl, rfl, rfl, rfl⟩ := dualProgram_unique IS.out his
  clear his
  obtain ⟨⟨⟨_, h0⟩, ⟨_, k0⟩, ⟨_, j0⟩, ap1, ap2, ap3, i1, i2, i3⟩, hl, hm, hk⟩ := h0
  rw [HN0.out] at h0
  rw [HM0.out] at k0
  rw [HK0.out] at j0
  clear hl hm hk
  clear i1 i2 i3
  obtain ⟨Ag0, cg0, rfl⟩ := own_slice h0
  obtain ⟨Bg0, dg0, rfl⟩ := own_slice k0
  obtain ⟨Cg0, fg0, rfl⟩ := own_slice j0
  have ho : OwnP w4 (w3.alloc (.cells #[.int .i64 p0, .int .i64 q0, .slice Ax0 len0 cx0, .slice Bx0 m0 dx0, .slice Cx0 ll0 fx0] 26)).heap.size Ag0 N0 cg0 (r1_0.map (.int .i64)) Bg0 M0 dg0 (s1_0.map (.int .i64)) Cg0 K0 fg0 (t1_0.map (.int .i64)) := ⟨h0, k0, j0, ap1, ap2, ap3⟩
  have Ug0 := Lib.hid ho.lt
  have Rg0_8 := Lib.hid ho.holds
  clear ho h0 k0 j0 ap1 ap2 ap3
  clear hb
  have BW9 := Lib.hid (BW8.out.alloc BW8.out.size (.cells #[.int .i64 p1_0, .int .i64 q1_0, .slice Ag0 N0 cg0, .slice Bg0 M0 dg0, .slice Cg0 K0 fg0] 26))
  have sz9 : Hid (w4.heap.size + 1 ≤ (w4.alloc (.cells #[.int .i64 p1_0, .int .i64 q1_0, .slice Ag0 N0 cg0, .slice Bg0 M0 dg0, .slice Cg0 K0 fg0] 26)).heap.size) := Lib.hid (by simp)
  have Rw0_9 := Lib.hid (Rw0_8.out.alloc (.cells #[.int .i64 p1_0, .int .i64 q1_0, .slice Ag0 N0 cg0, .slice Bg0 M0 dg0, .slice Cg0 K0 fg0] 26))
  have Rx0_9 := Lib.hid (Rx0_8.out.alloc (.cells #[.int .i64 p1_0, .int .i64 q1_0, .slice Ag0 N0 cg0, .slice Bg0 M0 dg0, .slice Cg0 K0 fg0] 26))
  have Rg0_9 := Lib.hid (Rg0_8.out.alloc (.cells #[.int .i64 p1_0, .int .i64 q1_0, .slice Ag0 N0 cg0, .slice Bg0 M0 dg0, .slice Cg0 K0 fg0] 26))
  have XaP_9 := Lib.hid (XaP_8.out.alloc (.cells #[.int .i64 p1_0, .int .i64 q1_0, .slice Ag0 N0 cg0, .slice Bg0 M0 dg0, .slice Cg0 K0 fg0] 26))
  have Xw0_9 := Lib.hid (Xw0_8.out.alloc (.cells #[.int .i64 p1_0, .int .i64 q1_0, .slice Ag0 N0 cg0, .slice Bg0 M0 dg0, .slice Cg0 K0 fg0] 26))
  have Xx0_9 := Lib.hid (Xx0_8.out.alloc (.cells #[.int .i64 p1_0, .int .i64 q1_0, .slice Ag0 N0 cg0, .slice Bg0 M0 dg0, .slice Cg0 K0 fg0] 26))
  have Xg0_9 := Lib.hid (Box.new w4 26 #[.int .i64 p1_0, .int .i64 q1_0, .slice Ag0 N0 cg0, .slice Bg0 M0 dg0, .slice Cg0 K0 fg0])
  have ew00a : w4.cell? ⟨w2.heap.size, 0, none⟩ = some (.int .i64 p1_0) := Xw0_8.out.cell 0
  have ew01a : w4.cell? ⟨w2.heap.size, 1, none⟩ = some (.int .i64 q1_0) := Xw0_8.out.cell 1
  have ew02a : w4.cell? ⟨w2.heap.size, 2, none⟩ = some (.slice Aw0 N0 cw0) := Xw0_8.out.cell 2
  have ew03a : w4.cell? ⟨w2.heap.size, 3, none⟩ = some (.slice Bw0 M0 dw0) := Xw0_8.out.cell 3
  have ew04a : w4.cell? ⟨w2.heap.size, 4, none⟩ = some (.slice Cw0 K0 fw0) := Xw0_8.out.cell 4
  have ew00b : (w4.alloc (.cells #[.int .i64 p1_0, .int .i64 q1_0, .slice Ag0 N0 cg0, .slice Bg0 M0 dg0, .slice Cg0 K0 fg0] 26)).cell? ⟨w2.heap.size, 0, none⟩ = some (.int .i64 p1_0) := Xw0_9.out.cell 0
  have ew01b : (w4.alloc (.cells #[.int .i64 p1_0, .int .i64 q1_0, .slice Ag0 N0 cg0, .slice Bg0 M0 dg0, .slice Cg0 K0 fg0] 26)).cell? ⟨w2.heap.size, 1, none⟩ = some (.int .i64 q1_0) := Xw0_9.out.cell 1
  have ew02b : (w4.alloc (.cells #[.int .i64 p1_0, .int .i64 q1_0, .slice Ag0 N0 cg0, .slice Bg0 M0 dg0, .slice Cg0 K0 fg0] 26)).cell? ⟨w2.heap.size, 2, none⟩ = some (.slice Aw0 N0 cw0) := Xw0_9.out.cell 2
  have ew03b : (w4.alloc (.cells #[.int .i64 p1_0, .int .i64 q1_0, .slice Ag0 N0 cg0, .slice Bg0 M0 dg0, .slice Cg0 K0 fg0] 26)).cell? ⟨w2.heap.size, 3, none⟩ = some (.slice Bw0 M0 dw0) := Xw0_9.out.cell 3
  have ew04b : (w4.alloc (.cells #[.int .i64 p1_0, .int .i64 q1_0, .slice Ag0 N0 cg0, .slice Bg0 M0 dg0, .slice Cg0 K0 fg0] 26)).cell? ⟨w2.heap.size, 4, none⟩ = some (.slice Cw0 K0 fw0) := Xw0_9.out.cell 4
  have new00 : w4.heap.size ≠ w2.heap.size := (by have := Xw0_8.out.lt; omega)
  go_wp2_with fail
  clear ew00a ew01a ew02a ew03a ew04a ew00b ew01b ew02b ew03b ew04b new00
  refine (eqProgram_same p1_0 q1_0 Ag0 Aw0 N0 cg0 cw0 r1_0 Bg0 Bw0 M0 dg0 dw0 s1_0 Cg0 Cw0 K0 fg0 fw0 t1_0 _ (pinr Rg0_9 Fp0 (by omega) (by omega) (by omega)) (pinr Rw0_9 Fp0 (by omega) (by omega) (by omega))).mono ?_
  rintro e w5 ⟨rfl, hb⟩
  have BW10 := Lib.hid (BW9.out.trans (hb.mono BW9.out.size))
  have sz10 : Hid ((w4.alloc (.cells #[.int .i64 p1_0, .int .i64 q1_0, .slice Ag0 N0 cg0, .slice Bg0 M0 dg0, .slice Cg0 K0 fg0] 26)).heap.size ≤ w5.heap.size) := hb.size
  have Rw0_10 := Lib.hid (Rw0_9.out.below hb)
  have Rx0_10 := Lib.hid (Rx0_9.out.below hb)
  have Rg0_10 := Lib.hid (Rg0_9.out.below hb)
  have XaP_10 := Lib.hid (XaP_9.out.below hb XaP_9.out.lt)
  have Xw0_10 := Lib.hid (Xw0_9.out.below hb Xw0_9.out.lt)
  have Xx0_10 := Lib.hid (Xx0_9.out.below hb Xx0_9.out.lt)
  have Xg0_10 := Lib.hid (Xg0_9.out.below hb Xg0_9.out.lt)
  clear hb
  go_wp2_with fail
  have BW11 := Lib.hid BW10.out.drew
  have sz11 : Hid (w5.heap.size ≤ w5.drew.heap.size) := Nat.le_refl _
  have Rw0_11 := Lib.hid Rw0_10.out.drew
  have Rx0_11 := Lib.hid Rx0_10.out.drew
  have Rg0_11 := Lib.hid Rg0_10.out.drew
  have XaP_11 := Lib.hid XaP_10.out.drew
  have Xw0_11 := Lib.hid Xw0_10.out.drew
  have Xx0_11 := Lib.hid Xx0_10.out.drew
  have Xg0_11 := Lib.hid Xg0_10.out.drew
  have cvx00 : Hid ((#[.int .i64 p0, .int .i64 q0, .slice Ax0 len0 cx0, .slice Bx0 m0 dx0, .slice Cx0 ll0 fx0] : Array Value)[0]? = some (.int .i64 p0)) := rfl
  have cvx01 : Hid ((#[.int .i64 p0, .int .i64 q0, .slice Ax0 len0 cx0, .slice Bx0 m0 dx0, .slice Cx0 ll0 fx0] : Array Value)[1]? = some (.int .i64 q0)) := rfl
  have cvx02 : Hid ((#[.int .i64 p0, .int .i64 q0, .slice Ax0 len0 cx0, .slice Bx0 m0 dx0, .slice Cx0 ll0 fx0] : Array Value)[2]? = some (.slice Ax0 len0 cx0)) := rfl
  have cvx03 : Hid ((#[.int .i64 p0, .int .i64 q0, .slice Ax0 len0 cx0, .slice Bx0 m0 dx0, .slice Cx0 ll0 fx0] : Array Value)[3]? = some (.slice Bx0 m0 dx0)) := rfl
  have cvx04 : Hid ((#[.int .i64 p0, .int .i64 q0, .slice Ax0 len0 cx0, .slice Bx0 m0 dx0, .slice Cx0 ll0 fx0] : Array Value)[4]? = some (.slice Cx0 ll0 fx0)) := rfl
  have cvaP0 : Hid ((#[.int .i64 p0, .int .i64 q0, .slice a0 len0 cap0, .slice b0 m0 d0, .slice ee0 ll0 ff0] : Array Value)[0]? = some (.int .i64 p0)) := rfl
  have cvaP1 : Hid ((#[.int .i64 p0, .int .i64 q0, .slice a0 len0 cap0, .slice b0 m0 d0, .slice ee0 ll0 ff0] : Array Value)[1]? = some (.int .i64 q0)) := rfl
  have cvaP2 : Hid ((#[.int .i64 p0, .int .i64 q0, .slice a0 len0 cap0, .slice b0 m0 d0, .slice ee0 ll0 ff0] : Array Value)[2]? = some (.slice a0 len0 cap0)) := rfl
  have cvaP3 : Hid ((#[.int .i64 p0, .int .i64 q0, .slice a0 len0 cap0, .slice b0 m0 d0, .slice ee0 ll0 ff0] : Array Value)[3]? = some (.slice b0 m0 d0)) := rfl
  have cvaP4 : Hid ((#[.int .i64 p0, .int .i64 q0, .slice a0 len0 cap0, .slice b0 m0 d0, .slice ee0 ll0 ff0] : Array Value)[4]? = some (.slice ee0 ll0 ff0)) := rfl
  go_region_held3 (fun w' => w'.cell? ⟨w3.heap.size, 0, none⟩ = some (.int .i64 p0) ∧ w'.cell? ⟨w3.heap.size, 1, none⟩ = some (.int .i64 q0) ∧ w'.cell? ⟨w3.heap.size, 2, none⟩ = some (.slice Ax0 len0 cx0) ∧ w'.cell? ⟨w3.heap.size, 3, none⟩ = some (.slice Bx0 m0 dx0) ∧ w'.cell? ⟨w3.heap.size, 4, none⟩ = some (.slice Cx0 ll0 fx0) ∧ w'.cell? ⟨w.heap.size, 0, none⟩ = some (.int .i64 p0) ∧ w'.cell? ⟨w.heap.size, 1, none⟩ = some (.int .i64 q0) ∧ w'.cell? ⟨w.heap.size, 2, none⟩ = some (.slice a0 len0 cap0) ∧ w'.cell? ⟨w.heap.size, 3, none⟩ = some (.slice b0 m0 d0) ∧ w'.cell? ⟨w.heap.size, 4, none⟩ = some (.slice ee0 ll0 ff0)) (first | with_reducible exact ⟨cellS Xx0_13 cvx00, cellS Xx0_13 cvx01, cellS Xx0_13 cvx02, cellS Xx0_13 cvx03, cellS Xx0_13 cvx04, cellS XaP_13 cvaP0, cellS XaP_13 cvaP1, cellS XaP_13 cvaP2, cellS XaP_13 cvaP3, cellS XaP_13 cvaP4⟩ | with_reducible exact ⟨cellS Xx0_12 cvx00, cellS Xx0_12 cvx01, cellS Xx0_12 cvx02, cellS Xx0_12 cvx03, cellS Xx0_12 cvx04, cellS XaP_12 cvaP0, cellS XaP_12 cvaP1, cellS XaP_12 cvaP2, cellS XaP_12 cvaP3, cellS XaP_12 cvaP4⟩ | with_reducible exact ⟨cellS Xx0_11 cvx00, cellS Xx0_11 cvx01, cellS Xx0_11 cvx02, cellS Xx0_11 cvx03, cellS Xx0_11 cvx04, cellS XaP_11 cvaP0, cellS XaP_11 cvaP1, cellS XaP_11 cvaP2, cellS XaP_11 cvaP3, cellS XaP_11 cvaP4⟩) (first | (go_at_call 18; refine (eqProgram_same p0 q0 Ax0 At2 len0 cx0 ct2 z0 Bx0 Bt2 m0 dx0 dt2 y0 Cx0 Ct2 ll0 fx0 ft2 yy0 _ (pin Rx0_12 Inz0) (pin Rt2_12 Inz0)).mono ?_; rintro e w7 ⟨rfl, hb⟩; have BW13 := Lib.hid (BW12.out.trans (hb.mono BW12.out.size)); have sz13 : Hid (w6.heap.size ≤ w7.heap.size) := hb.size; have Rw0_13 := Lib.hid (Rw0_12.out.below hb); have Rx0_13 := Lib.hid (Rx0_12.out.below hb); have Rg0_13 := Lib.hid (Rg0_12.out.below hb); have Rt2_13 := Lib.hid (Rt2_12.out.below hb); have XaP_13 := Lib.hid (XaP_12.out.below hb XaP_12.out.lt); have Xw0_13 := Lib.hid (Xw0_12.out.below hb Xw0_12.out.lt); have Xx0_13 := Lib.hid (Xx0_12.out.below hb Xx0_12.out.lt); have Xg0_13 := Lib.hid (Xg0_12.out.below hb Xg0_12.out.lt); clear hb) | (go_at_call 16; refine (toProgram_any p0 q0 a0 len0 cap0 z0 b0 m0 d0 y0 ee0 ll0 ff0 yy0 _ (Inz0.out.below BW11.out)).mono ?_; rintro e w6 ⟨At2, ct2, Bt2, dt2, Ct2, ft2, rfl, ho, hb⟩; have BW12 := Lib.hid (BW11.out.trans (hb.mono BW11.out.size)); have sz12 : Hid (w5.drew.heap.size ≤ w6.heap.size) := hb.size; have Rw0_12 := Lib.hid (Rw0_11.out.below hb); have Rx0_12 := Lib.hid (Rx0_11.out.below hb); have Rg0_12 := Lib.hid (Rg0_11.out.below hb); have XaP_12 := Lib.hid (XaP_11.out.below hb XaP_11.out.lt); have Xw0_12 := Lib.hid (Xw0_11.out.below hb Xw0_11.out.lt); have Xx0_12 := Lib.hid (Xx0_11.out.below hb Xx0_11.out.lt); have Xg0_12 := Lib.hid (Xg0_11.out.below hb Xg0_11.out.lt); have Ut2 := Lib.hid ho.lt; have Rt2_12 := Lib.hid ho.holds; have hcapt2 : len0 ≤ ct2 := own_le ho.1; clear ho hb))
  clear cvx00 cvx01 cvx02 cvx03 cvx04 cvaP0 cvaP1 cvaP2 cvaP3 cvaP4
  clear Rt2_13 Ut2
  have ex00a : w7.cell? ⟨w3.heap.size, 0, none⟩ = some (.int .i64 p0) := Xx0_13.out.cell 0
  have ex01a : w7.cell? ⟨w3.heap.size, 1, none⟩ = some (.int .i64 q0) := Xx0_13.out.cell 1
  have ex02a : w7.cell? ⟨w3.heap.size, 2, none⟩ = some (.slice Ax0 len0 cx0) := Xx0_13.out.cell 2
  have ex03a : w7.cell? ⟨w3.heap.size, 3, none⟩ = some (.slice Bx0 m0 dx0) := Xx0_13.out.cell 3
  have ex04a : w7.cell? ⟨w3.heap.size, 4, none⟩ = some (.slice Cx0 ll0 fx0) := Xx0_13.out.cell 4
  go_wp2_with fail
  clear ex00a ex01a ex02a ex03a ex04a
  refine (markProgram_own _ p0 q0 Ax0 len0 cx0 (1) z0 Bx0 m0 dx0 y0 Cx0 ll0 fx0 yy0 _ (by unfold maxLen; omega) (pnow Rx0_13)).mono ?_
  rintro e w8 ⟨rfl, ho, hW⟩
  have BW14 := Lib.hid (Wrote.below BW13.out hW (fun k hk => Nat.le_trans (Nat.le_trans (Nat.le_of_succ_le sz1.out) (Nat.le_trans sz2.out (Nat.le_trans sz3.out (Nat.le_trans sz4.out (Nat.le_of_succ_le sz5.out))))) (Ux0.out k hk).1) (Nat.le_trans (Nat.le_of_succ_le sz1.out) (Nat.le_trans sz2.out (Nat.le_trans sz3.out (Nat.le_trans sz4.out (Nat.le_trans (Nat.le_of_succ_le sz5.out) (Nat.le_trans sz6.out (Nat.le_trans (Nat.le_of_succ_le sz7.out) (Nat.le_trans sz8.out (Nat.le_trans (Nat.le_of_succ_le sz9.out) (Nat.le_trans sz10.out (Nat.le_trans sz11.out (Nat.le_trans sz12.out sz13.out)))))))))))))
  have sz14 : Hid (w7.heap.size ≤ w8.heap.size) := hW.size
  have Rw0_14 := Lib.hid (Rw0_13.out.wrote hW (two_none Uw0 Ux0 (.inl (Nat.le_of_succ_le sz5.out))))
  have Rg0_14 := Lib.hid (Rg0_13.out.wrote hW (two_none Ug0 Ux0 (.inr (Nat.le_of_succ_le sz7.out))))
  have XaP_14 := Lib.hid (XaP_13.out.wrote hW Ux0 (.inl (Nat.lt_of_lt_of_le (Nat.lt_of_succ_le sz1.out) (Nat.le_trans sz2.out (Nat.le_trans sz3.out (Nat.le_trans sz4.out (Nat.le_of_succ_le sz5.out)))))))
  have Xw0_14 := Lib.hid (Xw0_13.out.wrote hW Ux0 (.inl (Nat.lt_of_lt_of_le (Nat.lt_of_succ_le sz5.out) (Nat.le_refl _))))
  have Xx0_14 := Lib.hid (Xx0_13.out.wrote hW Ux0 (.inr (Nat.le_refl _)))
  have Xg0_14 := Lib.hid (Xg0_13.out.wrote hW Ux0 (.inr (Nat.le_trans (Nat.le_of_succ_le sz7.out) sz8.out)))
  have Rx0_14 := Lib.hid ho.holds
  clear ho hW
  clear Rx0_14 Ux0 Xx0_14
  have eg00a : w8.cell? ⟨w4.heap.size, 0, none⟩ = some (.int .i64 p1_0) := Xg0_14.out.cell 0
  have eg01a : w8.cell? ⟨w4.heap.size, 1, none⟩ = some (.int .i64 q1_0) := Xg0_14.out.cell 1
  have eg02a : w8.cell? ⟨w4.heap.size, 2, none⟩ = some (.slice Ag0 N0 cg0) := Xg0_14.out.cell 2
  have eg03a : w8.cell? ⟨w4.heap.size, 3, none⟩ = some (.slice Bg0 M0 dg0) := Xg0_14.out.cell 3
  have eg04a : w8.cell? ⟨w4.heap.size, 4, none⟩ = some (.slice Cg0 K0 fg0) := Xg0_14.out.cell 4
  have ew00a : w8.cell? ⟨w2.heap.size, 0, none⟩ = some (.int .i64 p1_0) := Xw0_14.out.cell 0
  have ew01a : w8.cell? ⟨w2.heap.size, 1, none⟩ = some (.int .i64 q1_0) := Xw0_14.out.cell 1
  have ew02a : w8.cell? ⟨w2.heap.size, 2, none⟩ = some (.slice Aw0 N0 cw0) := Xw0_14.out.cell 2
  have ew03a : w8.cell? ⟨w2.heap.size, 3, none⟩ = some (.slice Bw0 M0 dw0) := Xw0_14.out.cell 3
  have ew04a : w8.cell? ⟨w2.heap.size, 4, none⟩ = some (.slice Cw0 K0 fw0) := Xw0_14.out.cell 4
  go_wp2_with fail
  clear eg00a eg01a eg02a eg03a eg04a ew00a ew01a ew02a ew03a ew04a
  refine (eqProgram_same p1_0 q1_0 Ag0 Aw0 N0 cg0 cw0 r1_0 Bg0 Bw0 M0 dg0 dw0 s1_0 Cg0 Cw0 K0 fg0 fw0 t1_0 _ (pinr Rg0_14 Fp0 (by omega) (by omega) (by omega)) (pinr Rw0_14 Fp0 (by omega) (by omega) (by omega))).mono ?_
  rintro e w9 ⟨rfl, hb⟩
  have BW15 := Lib.hid (BW14.out.trans (hb.mono BW14.out.size))
  have sz15 : Hid (w8.heap.size ≤ w9.heap.size) := hb.size
  have Rw0_15 := Lib.hid (Rw0_14.out.below hb)
  have Rg0_15 := Lib.hid (Rg0_14.out.below hb)
  have XaP_15 := Lib.hid (XaP_14.out.below hb XaP_14.out.lt)
  have Xw0_15 := Lib.hid (Xw0_14.out.below hb Xw0_14.out.lt)
  have Xg0_15 := Lib.hid (Xg0_14.out.below hb Xg0_14.out.lt)
  clear hb
  have eg00a : w9.cell? ⟨w4.heap.size, 0, none⟩ = some (.int .i64 p1_0) := Xg0_15.out.cell 0
  have eg01a : w9.cell? ⟨w4.heap.size, 1, none⟩ = some (.int .i64 q1_0) := Xg0_15.out.cell 1
  have eg02a : w9.cell? ⟨w4.heap.size, 2, none⟩ = some (.slice Ag0 N0 cg0) := Xg0_15.out.cell 2
  have eg03a : w9.cell? ⟨w4.heap.size, 3, none⟩ = some (.slice Bg0 M0 dg0) := Xg0_15.out.cell 3
  have eg04a : w9.cell? ⟨w4.heap.size, 4, none⟩ = some (.slice Cg0 K0 fg0) := Xg0_15.out.cell 4
  go_wp2_with fail
  clear eg00a eg01a eg02a eg03a eg04a
  refine (markProgram_own _ p1_0 q1_0 Ag0 N0 cg0 (1) r1_0 Bg0 M0 dg0 s1_0 Cg0 K0 fg0 t1_0 _ (by unfold maxLen; omega) (pnow Rg0_15)).mono ?_
  rintro e w10 ⟨rfl, ho, hW⟩
  have BW16 := Lib.hid (Wrote.below BW15.out hW (fun k hk => Nat.le_trans (Nat.le_trans (Nat.le_of_succ_le sz1.out) (Nat.le_trans sz2.out (Nat.le_trans sz3.out (Nat.le_trans sz4.out (Nat.le_trans (Nat.le_of_succ_le sz5.out) (Nat.le_trans sz6.out (Nat.le_of_succ_le sz7.out))))))) (Ug0.out k hk).1) (Nat.le_trans (Nat.le_of_succ_le sz1.out) (Nat.le_trans sz2.out (Nat.le_trans sz3.out (Nat.le_trans sz4.out (Nat.le_trans (Nat.le_of_succ_le sz5.out) (Nat.le_trans sz6.out (Nat.le_trans (Nat.le_of_succ_le sz7.out) (Nat.le_trans sz8.out (Nat.le_trans (Nat.le_of_succ_le sz9.out) (Nat.le_trans sz10.out (Nat.le_trans sz11.out (Nat.le_trans sz12.out (Nat.le_trans sz13.out (Nat.le_trans sz14.out sz15.out)))))))))))))))
  have sz16 : Hid (w9.heap.size ≤ w10.heap.size) := hW.size
  have Rw0_16 := Lib.hid (Rw0_15.out.wrote hW (two_none Uw0 Ug0 (.inl (Nat.le_trans (Nat.le_of_succ_le sz5.out) (Nat.le_trans sz6.out (Nat.le_of_succ_le sz7.out))))))
  have XaP_16 := Lib.hid (XaP_15.out.wrote hW Ug0 (.inl (Nat.lt_of_lt_of_le (Nat.lt_of_succ_le sz1.out) (Nat.le_trans sz2.out (Nat.le_trans sz3.out (Nat.le_trans sz4.out (Nat.le_trans (Nat.le_of_succ_le sz5.out) (Nat.le_trans sz6.out (Nat.le_of_succ_le sz7.out)))))))))
  have Xw0_16 := Lib.hid (Xw0_15.out.wrote hW Ug0 (.inl (Nat.lt_of_lt_of_le (Nat.lt_of_succ_le sz5.out) (Nat.le_trans sz6.out (Nat.le_of_succ_le sz7.out)))))
  have Xg0_16 := Lib.hid (Xg0_15.out.wrote hW Ug0 (.inr (Nat.le_refl _)))
  have Rg0_16 := Lib.hid ho.holds
  clear ho hW
  have eg00a : w10.cell? ⟨w4.heap.size, 0, none⟩ = some (.int .i64 p1_0) := Xg0_16.out.cell 0
  have eg01a : w10.cell? ⟨w4.heap.size, 1, none⟩ = some (.int .i64 q1_0) := Xg0_16.out.cell 1
  have eg02a : w10.cell? ⟨w4.heap.size, 2, none⟩ = some (.slice Ag0 N0 cg0) := Xg0_16.out.cell 2
  have eg03a : w10.cell? ⟨w4.heap.size, 3, none⟩ = some (.slice Bg0 M0 dg0) := Xg0_16.out.cell 3
  have eg04a : w10.cell? ⟨w4.heap.size, 4, none⟩ = some (.slice Cg0 K0 fg0) := Xg0_16.out.cell 4
  go_wp2_with fail
  clear eg00a eg01a eg02a eg03a eg04a
  refine (heldProgram_same p1_0 q1_0 Ag0 N0 cg0 Bg0 M0 dg0 Cg0 K0 fg0 (1) _ (by unfold maxLen; omega) (Reads.of_own (prow1 Rg0_16)) (Reads.of_own (prow2 Rg0_16)) (Reads.of_own (prow3 Rg0_16))).mono ?_
  rintro e w11 ⟨rfl, hb⟩
  have BW17 := Lib.hid (BW16.out.trans (hb.mono BW16.out.size))
  have sz17 : Hid (w10.heap.size ≤ w11.heap.size) := hb.size
  have Rw0_17 := Lib.hid (Rw0_16.out.below hb)
  have Rg0_17 := Lib.hid (Rg0_16.out.below hb)
  have XaP_17 := Lib.hid (XaP_16.out.below hb XaP_16.out.lt)
  have Xw0_17 := Lib.hid (Xw0_16.out.below hb Xw0_16.out.lt)
  have Xg0_17 := Lib.hid (Xg0_16.out.below hb Xg0_16.out.lt)
  clear hb
  have eaP0a : w11.cell? ⟨w.heap.size, 0, none⟩ = some (.int .i64 p0) := XaP_17.out.cell 0
  have eaP1a : w11.cell? ⟨w.heap.size, 1, none⟩ = some (.int .i64 q0) := XaP_17.out.cell 1
  have eaP2a : w11.cell? ⟨w.heap.size, 2, none⟩ = some (.slice a0 len0 cap0) := XaP_17.out.cell 2
  have eaP3a : w11.cell? ⟨w.heap.size, 3, none⟩ = some (.slice b0 m0 d0) := XaP_17.out.cell 3
  have eaP4a : w11.cell? ⟨w.heap.size, 4, none⟩ = some (.slice ee0 ll0 ff0) := XaP_17.out.cell 4
  go_wp2_with fail
  clear eaP0a eaP1a eaP2a eaP3a eaP4a
  refine (toProgram_any p0 q0 a0 len0 cap0 z0 b0 m0 d0 y0 ee0 ll0 ff0 yy0 _ (Inz0.out.below BW17.out)).mono ?_
  rintro e w12 ⟨At3, ct3, Bt3, dt3, Ct3, ft3, rfl, ho, hb⟩
  have BW18 := Lib.hid (BW17.out.trans (hb.mono BW17.out.size))
  have sz18 : Hid (w11.heap.size ≤ w12.heap.size) := hb.size
  have Rw0_18 := Lib.hid (Rw0_17.out.below hb)
  have Rg0_18 := Lib.hid (Rg0_17.out.below hb)
  have XaP_18 := Lib.hid (XaP_17.out.below hb XaP_17.out.lt)
  have Xw0_18 := Lib.hid (Xw0_17.out.below hb Xw0_17.out.lt)
  have Xg0_18 := Lib.hid (Xg0_17.out.below hb Xg0_17.out.lt)
  have Ut3 := Lib.hid ho.lt
  have Rt3_18 := Lib.hid ho.holds
  have hcapt3 : len0 ≤ ct3 := own_le ho.1
  clear ho hb
  go_wp2_with fail
  refine (impl_dualProgram p0 q0 At3 len0 ct3 z0 Bt3 m0 dt3 y0 Ct3 ll0 ft3 yy0 _ (pin Rt3_18 Inz0) Bp0 Bq0 hcapt3).mono ?_
  rintro e w13 ⟨p3_0, q3_0, r3_0, v0, s3_0, u0, t3_0, x0, rfl, his, h0, hb⟩
  have BW19 := Lib.hid (BW18.out.trans (hb.mono BW18.out.size))
  have sz19 : Hid (w12.heap.size ≤ w13.heap.size) := hb.size
  have Rw0_19 := Lib.hid (Rw0_18.out.below hb)
  have Rg0_19 := Lib.hid (Rg0_18.out.below hb)
  have Rt3_19 := Lib.hid (Rt3_18.out.below hb)
  have XaP_19 := Lib.hid (XaP_18.out.below hb XaP_18.out.lt)
  have Xw0_19 := Lib.hid (Xw0_18.out.below hb Xw0_18.out.lt)
  have Xg0_19 := Lib.hid (Xg0_18.out.below hb Xg0_18.out.lt)
  obtain ⟨rfl, rfl, rfl, rfl, rfl⟩ := dualProgram_unique IS.out his
  clear his
  obtain ⟨⟨⟨_, h0⟩, ⟨_, k0⟩, ⟨_, j0⟩, ap1, ap2, ap3, i1, i2, i3⟩, hl, hm, hk⟩ := h0
  rw [HN0.out] at h0
  rw [HM0.out] at k0
  rw [HK0.out] at j0
  clear hl hm hk
  clear i1 i2 i3
  obtain ⟨Ah0, ch0, rfl⟩ := own_slice h0
  obtain ⟨Bh0, dh0, rfl⟩ := own_slice k0
  obtain ⟨Ch0, fh0, rfl⟩ := own_slice j0
  have ho : OwnP w13 w12.heap.size Ah0 N0 ch0 (r1_0.map (.int .i64)) Bh0 M0 dh0 (s1_0.map (.int .i64)) Ch0 K0 fh0 (t1_0.map (.int .i64)) := ⟨h0, k0, j0, ap1, ap2, ap3⟩
  have Uh0 := Lib.hid ho.lt
  have Rh0_19 := Lib.hid ho.holds
  clear ho h0 k0 j0 ap1 ap2 ap3
  clear hb
  clear Rt3_19 Ut3
  have BW20 := Lib.hid (BW19.out.alloc BW19.out.size (.cells #[.int .i64 p1_0, .int .i64 q1_0, .slice Ah0 N0 ch0, .slice Bh0 M0 dh0, .slice Ch0 K0 fh0] 26))
  have sz20 : Hid (w13.heap.size + 1 ≤ (w13.alloc (.cells #[.int .i64 p1_0, .int .i64 q1_0, .slice Ah0 N0 ch0, .slice Bh0 M0 dh0, .slice Ch0 K0 fh0] 26)).heap.size) := Lib.hid (by simp)
  have Rw0_20 := Lib.hid (Rw0_19.out.alloc (.cells #[.int .i64 p1_0, .int .i64 q1_0, .slice Ah0 N0 ch0, .slice Bh0 M0 dh0, .slice Ch0 K0 fh0] 26))
  have Rg0_20 := Lib.hid (Rg0_19.out.alloc (.cells #[.int .i64 p1_0, .int .i64 q1_0, .slice Ah0 N0 ch0, .slice Bh0 M0 dh0, .slice Ch0 K0 fh0] 26))
  have Rh0_20 := Lib.hid (Rh0_19.out.alloc (.cells #[.int .i64 p1_0, .int .i64 q1_0, .slice Ah0 N0 ch0, .slice Bh0 M0 dh0, .slice Ch0 K0 fh0] 26))
  have XaP_20 := Lib.hid (XaP_19.out.alloc (.cells #[.int .i64 p1_0, .int .i64 q1_0, .slice Ah0 N0 ch0, .slice Bh0 M0 dh0, .slice Ch0 K0 fh0] 26))
  have Xw0_20 := Lib.hid (Xw0_19.out.alloc (.cells #[.int .i64 p1_0, .int .i64 q1_0, .slice Ah0 N0 ch0, .slice Bh0 M0 dh0, .slice Ch0 K0 fh0] 26))
  have Xg0_20 := Lib.hid (Xg0_19.out.alloc (.cells #[.int .i64 p1_0, .int .i64 q1_0, .slice Ah0 N0 ch0, .slice Bh0 M0 dh0, .slice Ch0 K0 fh0] 26))
  have Xh0_20 := Lib.hid (Box.new w13 26 #[.int .i64 p1_0, .int .i64 q1_0, .slice Ah0 N0 ch0, .slice Bh0 M0 dh0, .slice Ch0 K0 fh0])
  have ew00a : w13.cell? ⟨w2.heap.size, 0, none⟩ = some (.int .i64 p1_0) := Xw0_19.out.cell 0
  have ew01a : w13.cell? ⟨w2.heap.size, 1, none⟩ = some (.int .i64 q1_0) := Xw0_19.out.cell 1
  have ew02a : w13.cell? ⟨w2.heap.size, 2, none⟩ = some (.slice Aw0 N0 cw0) := Xw0_19.out.cell 2
  have ew03a : w13.cell? ⟨w2.heap.size, 3, none⟩ = some (.slice Bw0 M0 dw0) := Xw0_19.out.cell 3
  have ew04a : w13.cell? ⟨w2.heap.size, 4, none⟩ = some (.slice Cw0 K0 fw0) := Xw0_19.out.cell 4
  have ew00b : (w13.alloc (.cells #[.int .i64 p1_0, .int .i64 q1_0, .slice Ah0 N0 ch0, .slice Bh0 M0 dh0, .slice Ch0 K0 fh0] 26)).cell? ⟨w2.heap.size, 0, none⟩ = some (.int .i64 p1_0) := Xw0_20.out.cell 0
  have ew01b : (w13.alloc (.cells #[.int .i64 p1_0, .int .i64 q1_0, .slice Ah0 N0 ch0, .slice Bh0 M0 dh0, .slice Ch0 K0 fh0] 26)).cell? ⟨w2.heap.size, 1, none⟩ = some (.int .i64 q1_0) := Xw0_20.out.cell 1
  have ew02b : (w13.alloc (.cells #[.int .i64 p1_0, .int .i64 q1_0, .slice Ah0 N0 ch0, .slice Bh0 M0 dh0, .slice Ch0 K0 fh0] 26)).cell? ⟨w2.heap.size, 2, none⟩ = some (.slice Aw0 N0 cw0) := Xw0_20.out.cell 2
  have ew03b : (w13.alloc (.cells #[.int .i64 p1_0, .int .i64 q1_0, .slice Ah0 N0 ch0, .slice Bh0 M0 dh0, .slice Ch0 K0 fh0] 26)).cell? ⟨w2.heap.size, 3, none⟩ = some (.slice Bw0 M0 dw0) := Xw0_20.out.cell 3
  have ew04b : (w13.alloc (.cells #[.int .i64 p1_0, .int .i64 q1_0, .slice Ah0 N0 ch0, .slice Bh0 M0 dh0, .slice Ch0 K0 fh0] 26)).cell? ⟨w2.heap.size, 4, none⟩ = some (.slice Cw0 K0 fw0) := Xw0_20.out.cell 4
  have new00 : w13.heap.size ≠ w2.heap.size := (by have := Xw0_19.out.lt; omega)
  go_wp2_with fail
  clear ew00a ew01a ew02a ew03a ew04a ew00b ew01b ew02b ew03b ew04b new00
  refine (eqProgram_same p1_0 q1_0 Ah0 Aw0 N0 ch0 cw0 r1_0 Bh0 Bw0 M0 dh0 dw0 s1_0 Ch0 Cw0 K0 fh0 fw0 t1_0 _ (pinr Rh0_20 Fp0 (by omega) (by omega) (by omega)) (pinr Rw0_20 Fp0 (by omega) (by omega) (by omega))).mono ?_
  rintro e w14 ⟨rfl, hb⟩
  have BW21 := Lib.hid (BW20.out.trans (hb.mono BW20.out.size))
  have sz21 : Hid ((w13.alloc (.cells #[.int .i64 p1_0, .int .i64 q1_0, .slice Ah0 N0 ch0, .slice Bh0 M0 dh0, .slice Ch0 K0 fh0] 26)).heap.size ≤ w14.heap.size) := hb.size
  have Rw0_21 := Lib.hid (Rw0_20.out.below hb)
  have Rg0_21 := Lib.hid (Rg0_20.out.below hb)
  have Rh0_21 := Lib.hid (Rh0_20.out.below hb)
  have XaP_21 := Lib.hid (XaP_20.out.below hb XaP_20.out.lt)
  have Xw0_21 := Lib.hid (Xw0_20.out.below hb Xw0_20.out.lt)
  have Xg0_21 := Lib.hid (Xg0_20.out.below hb Xg0_20.out.lt)
  have Xh0_21 := Lib.hid (Xh0_20.out.below hb Xh0_20.out.lt)
  clear hb
  clear Rw0_21 Uw0 Xw0_21
  clear Rh0_21 Uh0 Xh0_21
  have eg00a : w14.cell? ⟨w4.heap.size, 0, none⟩ = some (.int .i64 p1_0) := Xg0_21.out.cell 0
  have eg01a : w14.cell? ⟨w4.heap.size, 1, none⟩ = some (.int .i64 q1_0) := Xg0_21.out.cell 1
  have eg02a : w14.cell? ⟨w4.heap.size, 2, none⟩ = some (.slice Ag0 N0 cg0) := Xg0_21.out.cell 2
  have eg03a : w14.cell? ⟨w4.heap.size, 3, none⟩ = some (.slice Bg0 M0 dg0) := Xg0_21.out.cell 3
  have eg04a : w14.cell? ⟨w4.heap.size, 4, none⟩ = some (.slice Cg0 K0 fg0) := Xg0_21.out.cell 4
  go_wp2_with fail
  clear eg00a eg01a eg02a eg03a eg04a
  refine (heldProgram_same p1_0 q1_0 Ag0 N0 cg0 Bg0 M0 dg0 Cg0 K0 fg0 (1) _ (by unfold maxLen; omega) (Reads.of_own (prow1 Rg0_21)) (Reads.of_own (prow2 Rg0_21)) (Reads.of_own (prow3 Rg0_21))).mono ?_
  rintro e w15 ⟨rfl, hb⟩
  have BW22 := Lib.hid (BW21.out.trans (hb.mono BW21.out.size))
  have sz22 : Hid (w14.heap.size ≤ w15.heap.size) := hb.size
  have Rg0_22 := Lib.hid (Rg0_21.out.below hb)
  have XaP_22 := Lib.hid (XaP_21.out.below hb XaP_21.out.lt)
  have Xg0_22 := Lib.hid (Xg0_21.out.below hb Xg0_21.out.lt)
  clear hb
  clear Rg0_22 Ug0 Xg0_22
  go_wp2_with fail
  go_ret
  exact ⟨rfl, BW22.out⟩
end Go.Proofs.Ytcmbfgaojlnjcaa.fnExactDualProgram
