/- The walk of the law: for all arguments the law FnExactWithoutMembers returns true: the program's WithoutMembers answers as the model's; no condition on them. -/
import Derived.Test.YtcmbfgaojlnjcaaStM6
import Derived.Test.YtcmbfgaojlnjcaaStW3
import Derived.Test.YtcmbfgaojlnjcaaStH
import Derived.ProofKit
import Derived.OpenShut
import Derived.ShutString
import Derived.Lib.SmallJoins
namespace Go.Proofs.Ytcmbfgaojlnjcaa.fnExactWithoutMembers
set_option maxRecDepth 100000
open Go.ChangeShapes Go.WideShapes Go.ChangeAt Go.RowKit Go.Joins Go.Deep
open Go.ChangeMaps (open_string shut_string)

set_option maxRecDepth 100000 in
set_option maxHeartbeats 16000000 in
theorem walk {w : World} (a0 : Option Addr) (len0 cap0 : Nat) (z0 : List JD) (hz0 : IsJ w a0 len0 z0) (b0 : Option Addr) (m0 d0 : Nat) (y0 : List MD) (hy0 : IsM w b0 m0 y0) (a1 : Option Addr) (len1 cap1 : Nat) (z1 : List Int) (hz1 : IsInts w a1 len1 z1) :
    Calls Try.prog 12 #[.agg #[.slice a0 len0 cap0, .slice b0 m0 d0], .slice a1 len1 cap1] w fun e w' => e = .returned (.bool true) ∧ Below w.heap.size w w' := by
  have hmz0 : len0 ≤ maxLen := hz0.2.1
  have Hz0 := Lib.hid hz0
  clear hz0
  have hmy0 : m0 ≤ maxLen := hy0.2.1
  have Hy0 := Lib.hid hy0
  clear hy0
  have hmz1 : len1 ≤ maxLen := hz1.2.1
  have Hz1 := Lib.hid hz1
  clear hz1
  have BW0 : Hid (Below w.heap.size w w) := Below.refl _ _
  have BW1 := Lib.hid (BW0.out.alloc BW0.out.size (.cells #[.slice a0 len0 cap0, .slice b0 m0 d0] 42))
  have sz1 : Hid (w.heap.size + 1 ≤ (w.alloc (.cells #[.slice a0 len0 cap0, .slice b0 m0 d0] 42)).heap.size) := Lib.hid (by simp)
  have XaS_1 := Lib.hid (Box.new w 42 #[.slice a0 len0 cap0, .slice b0 m0 d0])
  by_cases biga1 : 1048576 < (len1 : Int)
  · go_enter Try.func12, Try.ntmps12
    go_wp2_with fail
    go_ret
    exact ⟨rfl, BW1.out⟩
  have Inz1 : Hid (InI w a1 len1 z1) := ⟨Hz1.out.1, by omega, Hz1.out.2.2.1, Hz1.out.2.2.2⟩
  go_enter Try.func12, Try.ntmps12
  have eaS0a : (w.alloc (.cells #[.slice a0 len0 cap0, .slice b0 m0 d0] 42)).cell? ⟨w.heap.size, 0, none⟩ = some (.slice a0 len0 cap0) := XaS_1.out.cell 0
  have eaS1a : (w.alloc (.cells #[.slice a0 len0 cap0, .slice b0 m0 d0] 42)).cell? ⟨w.heap.size, 1, none⟩ = some (.slice b0 m0 d0) := XaS_1.out.cell 1
  go_wp2_with fail
  clear eaS0a eaS1a
  refine (szStructure_any a0 len0 cap0 z0 b0 m0 d0 (1048576 : Int) _ (Hz0.out.below BW1.out) hmy0 (by omega) (by omega)).mono ?_
  rintro e ws0 ⟨lf0, rfl, hr, hb⟩
  have BW2 := Lib.hid (BW1.out.trans (hb.mono BW1.out.size))
  have sz2 : Hid ((w.alloc (.cells #[.slice a0 len0 cap0, .slice b0 m0 d0] 42)).heap.size ≤ ws0.heap.size) := hb.size
  have XaS_2 := Lib.hid (XaS_1.out.below hb XaS_1.out.lt)
  clear hb
  rcases hr with rfl | ⟨h0, hr⟩
  · go_wp2_with fail
    go_ret
    exact ⟨rfl, BW2.out⟩
  have lb0 : 0 ≤ lf0 ∧ lf0 ≤ 1048576 := by omega
  have ls0 : lf0 + ((len0 : Int) + jtot z0 + m0) = (1048576 : Int) := by omega
  have HLS0 := Lib.hid ls0
  have lt0 : len0 + jtot z0 + m0 ≤ 1048576 := by omega
  clear ls0 hr
  have h00 := h0
  clear h0
  have Inz0 : Hid (InT w a0 len0 z0 b0 m0 y0) := ⟨Hz0.out.inJ (by omega), Hy0.out.inM (by omega)⟩
  have Ftz0 : Hid (TFit len0 z0 m0 y0) := ⟨Inz0.out.1.1, Inz0.out.2.1, Inz0.out.1.2.2.2, Inz0.out.2.2.2.2⟩
  have eaS0a : ws0.cell? ⟨w.heap.size, 0, none⟩ = some (.slice a0 len0 cap0) := XaS_2.out.cell 0
  have eaS1a : ws0.cell? ⟨w.heap.size, 1, none⟩ = some (.slice b0 m0 d0) := XaS_2.out.cell 1
  go_wp2_with fail
  clear eaS0a eaS1a
  refine (toStructure_any a0 len0 cap0 z0 b0 m0 d0 y0 _ (Inz0.out.below BW2.out)).mono ?_
  rintro e w1 ⟨At1, ct1, Bt1, dt1, rfl, ho, hb⟩
  have BW3 := Lib.hid (BW2.out.trans (hb.mono BW2.out.size))
  have sz3 : Hid (ws0.heap.size ≤ w1.heap.size) := hb.size
  have XaS_3 := Lib.hid (XaS_2.out.below hb XaS_2.out.lt)
  have Ut1 := Lib.hid ho.lt
  have Rt1_3 := Lib.hid ho.holds
  clear ho hb
  go_wp2_with fail
  refine (toIntS_any a1 len1 cap1 z1 _ Inz1.out.len Inz1.out.le (Inz1.out.rd.below BW3.out)).mono ?_
  rintro e w2 ⟨v, rfl, ho, hb⟩
  have BW4 := Lib.hid (BW3.out.trans (hb.mono BW3.out.size))
  have sz4 : Hid (w1.heap.size ≤ w2.heap.size) := hb.size
  have Rt1_4 := Lib.hid (Rt1_3.out.below hb)
  have XaS_4 := Lib.hid (XaS_3.out.below hb XaS_3.out.lt)
  obtain ⟨At2, ct2, rfl⟩ := own_slice ho
  have Ut2 := Lib.hid (show ∀ k, blk _ k → _ ∧ _ from fun k hk => ho.lt k hk)
  have Rt2_4 := Lib.hid (own_holds ho)
  clear ho hb
  go_wp2_with fail
  refine (spec_withoutMembers At1 len0 ct1 z0 Bt1 m0 dt1 y0 At2 len1 ct2 z1 _ (tin Rt1_4 Ftz0 (by omega) (by omega)) (Inz1.out.own (inow Rt2_4))).mono ?_
  rintro e w3 ⟨r1_0, v0, s1_0, u0, rfl, his, h0, hb⟩
  have BW5 := Lib.hid (BW4.out.trans (hb.mono BW4.out.size))
  have sz5 : Hid (w2.heap.size ≤ w3.heap.size) := hb.size
  have Rt1_5 := Lib.hid (Rt1_4.out.below hb)
  have Rt2_5 := Lib.hid (Rt2_4.out.below hb)
  have XaS_5 := Lib.hid (XaS_4.out.below hb XaS_4.out.lt)
  have IS := Lib.hid his
  clear his
  obtain ⟨h0, k0, ap1, hl, hm, i1, i2⟩ := h0
  obtain ⟨N0, hN⟩ : ∃ N, N = r1_0.length := ⟨_, rfl⟩
  rw [← hN] at hl h0
  have HN0 : Hid (r1_0.length = N0) := hN.symm
  have hl0 := hl
  clear hN hl
  obtain ⟨M0, hN⟩ : ∃ N, N = s1_0.length := ⟨_, rfl⟩
  rw [← hN] at hm k0
  have HM0 : Hid (s1_0.length = M0) := hN.symm
  have hm0 := hm
  clear hN hm
  have Ftr1_0 : Hid (TFit N0 r1_0 M0 s1_0) := ⟨HN0.out, HM0.out, i1, i2⟩
  clear i1 i2
  obtain ⟨Aw0, cw0, rfl⟩ := own_slice h0
  obtain ⟨Bw0, dw0, rfl⟩ := own_slice k0
  have ho : OwnT w3 w2.heap.size Aw0 N0 cw0 r1_0 Bw0 M0 dw0 s1_0 := ⟨h0, k0, ap1⟩
  have Uw0 := Lib.hid ho.lt
  have Rw0_5 := Lib.hid ho.holds
  clear ho h0 k0 ap1
  clear hb
  clear Rt1_5 Ut1
  clear Rt2_5 Ut2
  have BW6 := Lib.hid (BW5.out.alloc BW5.out.size (.cells #[.slice Aw0 N0 cw0, .slice Bw0 M0 dw0] 48))
  have sz6 : Hid (w3.heap.size + 1 ≤ (w3.alloc (.cells #[.slice Aw0 N0 cw0, .slice Bw0 M0 dw0] 48)).heap.size) := Lib.hid (by simp)
  have Rw0_6 := Lib.hid (Rw0_5.out.alloc (.cells #[.slice Aw0 N0 cw0, .slice Bw0 M0 dw0] 48))
  have XaS_6 := Lib.hid (XaS_5.out.alloc (.cells #[.slice Aw0 N0 cw0, .slice Bw0 M0 dw0] 48))
  have Xw0_6 := Lib.hid (Box.new w3 48 #[.slice Aw0 N0 cw0, .slice Bw0 M0 dw0])
  have eaS0a : w3.cell? ⟨w.heap.size, 0, none⟩ = some (.slice a0 len0 cap0) := XaS_5.out.cell 0
  have eaS1a : w3.cell? ⟨w.heap.size, 1, none⟩ = some (.slice b0 m0 d0) := XaS_5.out.cell 1
  have eaS0b : (w3.alloc (.cells #[.slice Aw0 N0 cw0, .slice Bw0 M0 dw0] 48)).cell? ⟨w.heap.size, 0, none⟩ = some (.slice a0 len0 cap0) := XaS_6.out.cell 0
  have eaS1b : (w3.alloc (.cells #[.slice Aw0 N0 cw0, .slice Bw0 M0 dw0] 48)).cell? ⟨w.heap.size, 1, none⟩ = some (.slice b0 m0 d0) := XaS_6.out.cell 1
  have neaS0 : w3.heap.size ≠ w.heap.size := (by have := XaS_5.out.lt; omega)
  go_wp2_with fail
  clear eaS0a eaS1a eaS0b eaS1b neaS0
  refine (toStructure_any a0 len0 cap0 z0 b0 m0 d0 y0 _ (Inz0.out.below BW6.out)).mono ?_
  rintro e w4 ⟨Ax0, cx0, Bx0, dx0, rfl, ho, hb⟩
  have BW7 := Lib.hid (BW6.out.trans (hb.mono BW6.out.size))
  have sz7 : Hid ((w3.alloc (.cells #[.slice Aw0 N0 cw0, .slice Bw0 M0 dw0] 48)).heap.size ≤ w4.heap.size) := hb.size
  have Rw0_7 := Lib.hid (Rw0_6.out.below hb)
  have XaS_7 := Lib.hid (XaS_6.out.below hb XaS_6.out.lt)
  have Xw0_7 := Lib.hid (Xw0_6.out.below hb Xw0_6.out.lt)
  have Ux0 := Lib.hid ho.lt
  have Rx0_7 := Lib.hid ho.holds
  clear ho hb
  have BW8 := Lib.hid (BW7.out.alloc BW7.out.size (.cells #[.slice Ax0 len0 cx0, .slice Bx0 m0 dx0] 48))
  have sz8 : Hid (w4.heap.size + 1 ≤ (w4.alloc (.cells #[.slice Ax0 len0 cx0, .slice Bx0 m0 dx0] 48)).heap.size) := Lib.hid (by simp)
  have Rw0_8 := Lib.hid (Rw0_7.out.alloc (.cells #[.slice Ax0 len0 cx0, .slice Bx0 m0 dx0] 48))
  have Rx0_8 := Lib.hid (Rx0_7.out.alloc (.cells #[.slice Ax0 len0 cx0, .slice Bx0 m0 dx0] 48))
  have XaS_8 := Lib.hid (XaS_7.out.alloc (.cells #[.slice Ax0 len0 cx0, .slice Bx0 m0 dx0] 48))
  have Xw0_8 := Lib.hid (Xw0_7.out.alloc (.cells #[.slice Ax0 len0 cx0, .slice Bx0 m0 dx0] 48))
  have Xx0_8 := Lib.hid (Box.new w4 48 #[.slice Ax0 len0 cx0, .slice Bx0 m0 dx0])
  go_wp2_with fail
  refine (toIntS_any a1 len1 cap1 z1 _ Inz1.out.len Inz1.out.le (Inz1.out.rd.below BW8.out)).mono ?_
  rintro e w5 ⟨v, rfl, ho, hb⟩
  have BW9 := Lib.hid (BW8.out.trans (hb.mono BW8.out.size))
  have sz9 : Hid ((w4.alloc (.cells #[.slice Ax0 len0 cx0, .slice Bx0 m0 dx0] 48)).heap.size ≤ w5.heap.size) := hb.size
  have Rw0_9 := Lib.hid (Rw0_8.out.below hb)
  have Rx0_9 := Lib.hid (Rx0_8.out.below hb)
  have XaS_9 := Lib.hid (XaS_8.out.below hb XaS_8.out.lt)
  have Xw0_9 := Lib.hid (Xw0_8.out.below hb Xw0_8.out.lt)
  have Xx0_9 := Lib.hid (Xx0_8.out.below hb Xx0_8.out.lt)
  obtain ⟨Ax1, cx1, rfl⟩ := own_slice ho
  have Ux1 := Lib.hid (show ∀ k, blk _ k → _ ∧ _ from fun k hk => ho.lt k hk)
  have Rx1_9 := Lib.hid (own_holds ho)
  clear ho hb
  have ex00a : w5.cell? ⟨w4.heap.size, 0, none⟩ = some (.slice Ax0 len0 cx0) := Xx0_9.out.cell 0
  have ex01a : w5.cell? ⟨w4.heap.size, 1, none⟩ = some (.slice Bx0 m0 dx0) := Xx0_9.out.cell 1
  go_wp2_with fail
  clear ex00a ex01a
  refine (impl_withoutMembers Ax0 len0 cx0 z0 Bx0 m0 dx0 y0 Ax1 len1 cx1 z1 _ (tin Rx0_9 Ftz0 (by omega) (by omega)) (Inz1.out.own (inow Rx1_9))).mono ?_
  rintro e w6 ⟨r2_0, v0, s2_0, u0, rfl, his, h0, hb⟩
  have BW10 := Lib.hid (BW9.out.trans (hb.mono BW9.out.size))
  have sz10 : Hid (w5.heap.size ≤ w6.heap.size) := hb.size
  have Rw0_10 := Lib.hid (Rw0_9.out.below hb)
  have Rx0_10 := Lib.hid (Rx0_9.out.below hb)
  have Rx1_10 := Lib.hid (Rx1_9.out.below hb)
  have XaS_10 := Lib.hid (XaS_9.out.below hb XaS_9.out.lt)
  have Xw0_10 := Lib.hid (Xw0_9.out.below hb Xw0_9.out.lt)
  have Xx0_10 := Lib.hid (Xx0_9.out.below hb Xx0_9.out.lt)
  obtain ⟨rfl, rfl⟩ := withoutMembers_unique IS.out his
  clear his
  obtain ⟨h0, k0, ap1, hl, hm, i1, i2⟩ := h0
  rw [HN0.out] at h0
  rw [HM0.out] at k0
  clear hl hm
  clear i1 i2
  obtain ⟨Ag0, cg0, rfl⟩ := own_slice h0
  obtain ⟨Bg0, dg0, rfl⟩ := own_slice k0
  have ho : OwnT w6 w5.heap.size Ag0 N0 cg0 r1_0 Bg0 M0 dg0 s1_0 := ⟨h0, k0, ap1⟩
  have Ug0 := Lib.hid ho.lt
  have Rg0_10 := Lib.hid ho.holds
  clear ho h0 k0 ap1
  clear hb
  have BW11 := Lib.hid (BW10.out.alloc BW10.out.size (.cells #[.slice Ag0 N0 cg0, .slice Bg0 M0 dg0] 48))
  have sz11 : Hid (w6.heap.size + 1 ≤ (w6.alloc (.cells #[.slice Ag0 N0 cg0, .slice Bg0 M0 dg0] 48)).heap.size) := Lib.hid (by simp)
  have Rw0_11 := Lib.hid (Rw0_10.out.alloc (.cells #[.slice Ag0 N0 cg0, .slice Bg0 M0 dg0] 48))
  have Rx0_11 := Lib.hid (Rx0_10.out.alloc (.cells #[.slice Ag0 N0 cg0, .slice Bg0 M0 dg0] 48))
  have Rx1_11 := Lib.hid (Rx1_10.out.alloc (.cells #[.slice Ag0 N0 cg0, .slice Bg0 M0 dg0] 48))
  have Rg0_11 := Lib.hid (Rg0_10.out.alloc (.cells #[.slice Ag0 N0 cg0, .slice Bg0 M0 dg0] 48))
  have XaS_11 := Lib.hid (XaS_10.out.alloc (.cells #[.slice Ag0 N0 cg0, .slice Bg0 M0 dg0] 48))
  have Xw0_11 := Lib.hid (Xw0_10.out.alloc (.cells #[.slice Ag0 N0 cg0, .slice Bg0 M0 dg0] 48))
  have Xx0_11 := Lib.hid (Xx0_10.out.alloc (.cells #[.slice Ag0 N0 cg0, .slice Bg0 M0 dg0] 48))
  have Xg0_11 := Lib.hid (Box.new w6 48 #[.slice Ag0 N0 cg0, .slice Bg0 M0 dg0])
  have ew00a : w6.cell? ⟨w3.heap.size, 0, none⟩ = some (.slice Aw0 N0 cw0) := Xw0_10.out.cell 0
  have ew01a : w6.cell? ⟨w3.heap.size, 1, none⟩ = some (.slice Bw0 M0 dw0) := Xw0_10.out.cell 1
  have ew00b : (w6.alloc (.cells #[.slice Ag0 N0 cg0, .slice Bg0 M0 dg0] 48)).cell? ⟨w3.heap.size, 0, none⟩ = some (.slice Aw0 N0 cw0) := Xw0_11.out.cell 0
  have ew01b : (w6.alloc (.cells #[.slice Ag0 N0 cg0, .slice Bg0 M0 dg0] 48)).cell? ⟨w3.heap.size, 1, none⟩ = some (.slice Bw0 M0 dw0) := Xw0_11.out.cell 1
  have new00 : w6.heap.size ≠ w3.heap.size := (by have := Xw0_10.out.lt; omega)
  go_wp2_with fail
  clear ew00a ew01a ew00b ew01b new00
  refine (eqStructure_same Ag0 Aw0 N0 cg0 cw0 r1_0 Bg0 Bw0 M0 dg0 dw0 s1_0 _ (tin Rg0_11 Ftr1_0 (by omega) (by omega)) (tin Rw0_11 Ftr1_0 (by omega) (by omega))).mono ?_
  rintro e w7 ⟨rfl, hb⟩
  have BW12 := Lib.hid (BW11.out.trans (hb.mono BW11.out.size))
  have sz12 : Hid ((w6.alloc (.cells #[.slice Ag0 N0 cg0, .slice Bg0 M0 dg0] 48)).heap.size ≤ w7.heap.size) := hb.size
  have Rw0_12 := Lib.hid (Rw0_11.out.below hb)
  have Rx0_12 := Lib.hid (Rx0_11.out.below hb)
  have Rx1_12 := Lib.hid (Rx1_11.out.below hb)
  have Rg0_12 := Lib.hid (Rg0_11.out.below hb)
  have XaS_12 := Lib.hid (XaS_11.out.below hb XaS_11.out.lt)
  have Xw0_12 := Lib.hid (Xw0_11.out.below hb Xw0_11.out.lt)
  have Xx0_12 := Lib.hid (Xx0_11.out.below hb Xx0_11.out.lt)
  have Xg0_12 := Lib.hid (Xg0_11.out.below hb Xg0_11.out.lt)
  clear hb
  go_wp2_with fail
  have BW13 := Lib.hid BW12.out.drew
  have sz13 : Hid (w7.heap.size ≤ w7.drew.heap.size) := Nat.le_refl _
  have Rw0_13 := Lib.hid Rw0_12.out.drew
  have Rx0_13 := Lib.hid Rx0_12.out.drew
  have Rx1_13 := Lib.hid Rx1_12.out.drew
  have Rg0_13 := Lib.hid Rg0_12.out.drew
  have XaS_13 := Lib.hid XaS_12.out.drew
  have Xw0_13 := Lib.hid Xw0_12.out.drew
  have Xx0_13 := Lib.hid Xx0_12.out.drew
  have Xg0_13 := Lib.hid Xg0_12.out.drew
  have cvx00 : Hid ((#[.slice Ax0 len0 cx0, .slice Bx0 m0 dx0] : Array Value)[0]? = some (.slice Ax0 len0 cx0)) := rfl
  have cvx01 : Hid ((#[.slice Ax0 len0 cx0, .slice Bx0 m0 dx0] : Array Value)[1]? = some (.slice Bx0 m0 dx0)) := rfl
  have cvaS0 : Hid ((#[.slice a0 len0 cap0, .slice b0 m0 d0] : Array Value)[0]? = some (.slice a0 len0 cap0)) := rfl
  have cvaS1 : Hid ((#[.slice a0 len0 cap0, .slice b0 m0 d0] : Array Value)[1]? = some (.slice b0 m0 d0)) := rfl
  go_region_held3 (fun w' => w'.cell? ⟨w4.heap.size, 0, none⟩ = some (.slice Ax0 len0 cx0) ∧ w'.cell? ⟨w4.heap.size, 1, none⟩ = some (.slice Bx0 m0 dx0) ∧ w'.cell? ⟨w.heap.size, 0, none⟩ = some (.slice a0 len0 cap0) ∧ w'.cell? ⟨w.heap.size, 1, none⟩ = some (.slice b0 m0 d0)) (first | with_reducible exact ⟨cellS Xx0_15 cvx00, cellS Xx0_15 cvx01, cellS XaS_15 cvaS0, cellS XaS_15 cvaS1⟩ | with_reducible exact ⟨cellS Xx0_14 cvx00, cellS Xx0_14 cvx01, cellS XaS_14 cvaS0, cellS XaS_14 cvaS1⟩ | with_reducible exact ⟨cellS Xx0_13 cvx00, cellS Xx0_13 cvx01, cellS XaS_13 cvaS0, cellS XaS_13 cvaS1⟩) (first | (go_at_call 31; refine (eqStructure_same Ax0 At3 len0 cx0 ct3 z0 Bx0 Bt3 m0 dx0 dt3 y0 _ (tin Rx0_14 Ftz0 (by omega) (by omega)) (tin Rt3_14 Ftz0 (by omega) (by omega))).mono ?_; rintro e w9 ⟨rfl, hb⟩; have BW15 := Lib.hid (BW14.out.trans (hb.mono BW14.out.size)); have sz15 : Hid (w8.heap.size ≤ w9.heap.size) := hb.size; have Rw0_15 := Lib.hid (Rw0_14.out.below hb); have Rx0_15 := Lib.hid (Rx0_14.out.below hb); have Rx1_15 := Lib.hid (Rx1_14.out.below hb); have Rg0_15 := Lib.hid (Rg0_14.out.below hb); have Rt3_15 := Lib.hid (Rt3_14.out.below hb); have XaS_15 := Lib.hid (XaS_14.out.below hb XaS_14.out.lt); have Xw0_15 := Lib.hid (Xw0_14.out.below hb Xw0_14.out.lt); have Xx0_15 := Lib.hid (Xx0_14.out.below hb Xx0_14.out.lt); have Xg0_15 := Lib.hid (Xg0_14.out.below hb Xg0_14.out.lt); clear hb) | (go_at_call 29; refine (toStructure_any a0 len0 cap0 z0 b0 m0 d0 y0 _ (Inz0.out.below BW13.out)).mono ?_; rintro e w8 ⟨At3, ct3, Bt3, dt3, rfl, ho, hb⟩; have BW14 := Lib.hid (BW13.out.trans (hb.mono BW13.out.size)); have sz14 : Hid (w7.drew.heap.size ≤ w8.heap.size) := hb.size; have Rw0_14 := Lib.hid (Rw0_13.out.below hb); have Rx0_14 := Lib.hid (Rx0_13.out.below hb); have Rx1_14 := Lib.hid (Rx1_13.out.below hb); have Rg0_14 := Lib.hid (Rg0_13.out.below hb); have XaS_14 := Lib.hid (XaS_13.out.below hb XaS_13.out.lt); have Xw0_14 := Lib.hid (Xw0_13.out.below hb Xw0_13.out.lt); have Xx0_14 := Lib.hid (Xx0_13.out.below hb Xx0_13.out.lt); have Xg0_14 := Lib.hid (Xg0_13.out.below hb Xg0_13.out.lt); have Ut3 := Lib.hid ho.lt; have Rt3_14 := Lib.hid ho.holds; clear ho hb))
  clear cvx00 cvx01 cvaS0 cvaS1
  clear Rt3_15 Ut3
  go_wp2_with fail
  refine (toIntS_any a1 len1 cap1 z1 _ Inz1.out.len Inz1.out.le (Inz1.out.rd.below BW15.out)).mono ?_
  rintro e w10 ⟨v, rfl, ho, hb⟩
  have BW16 := Lib.hid (BW15.out.trans (hb.mono BW15.out.size))
  have sz16 : Hid (w9.heap.size ≤ w10.heap.size) := hb.size
  have Rw0_16 := Lib.hid (Rw0_15.out.below hb)
  have Rx0_16 := Lib.hid (Rx0_15.out.below hb)
  have Rx1_16 := Lib.hid (Rx1_15.out.below hb)
  have Rg0_16 := Lib.hid (Rg0_15.out.below hb)
  have XaS_16 := Lib.hid (XaS_15.out.below hb XaS_15.out.lt)
  have Xw0_16 := Lib.hid (Xw0_15.out.below hb Xw0_15.out.lt)
  have Xx0_16 := Lib.hid (Xx0_15.out.below hb Xx0_15.out.lt)
  have Xg0_16 := Lib.hid (Xg0_15.out.below hb Xg0_15.out.lt)
  obtain ⟨At4, ct4, rfl⟩ := own_slice ho
  have Ut4 := Lib.hid (show ∀ k, blk _ k → _ ∧ _ from fun k hk => ho.lt k hk)
  have Rt4_16 := Lib.hid (own_holds ho)
  clear ho hb
  go_wp2_with fail
  refine (eqIntS_same Ax1 At4 len1 cx1 ct4 z1 _ Inz1.out.len (by unfold maxLen; omega) (Reads.of_own (inow Rx1_16)) (Reads.of_own (inow Rt4_16))).mono ?_
  rintro e w11 ⟨rfl, hb⟩
  have BW17 := Lib.hid (BW16.out.trans (hb.mono BW16.out.size))
  have sz17 : Hid (w10.heap.size ≤ w11.heap.size) := hb.size
  have Rw0_17 := Lib.hid (Rw0_16.out.below hb)
  have Rx0_17 := Lib.hid (Rx0_16.out.below hb)
  have Rx1_17 := Lib.hid (Rx1_16.out.below hb)
  have Rg0_17 := Lib.hid (Rg0_16.out.below hb)
  have Rt4_17 := Lib.hid (Rt4_16.out.below hb)
  have XaS_17 := Lib.hid (XaS_16.out.below hb XaS_16.out.lt)
  have Xw0_17 := Lib.hid (Xw0_16.out.below hb Xw0_16.out.lt)
  have Xx0_17 := Lib.hid (Xx0_16.out.below hb Xx0_16.out.lt)
  have Xg0_17 := Lib.hid (Xg0_16.out.below hb Xg0_16.out.lt)
  clear hb
  clear Rt4_17 Ut4
  have ex00a : w11.cell? ⟨w4.heap.size, 0, none⟩ = some (.slice Ax0 len0 cx0) := Xx0_17.out.cell 0
  have ex01a : w11.cell? ⟨w4.heap.size, 1, none⟩ = some (.slice Bx0 m0 dx0) := Xx0_17.out.cell 1
  go_wp2_with fail
  clear ex00a ex01a
  refine (markStructure_own _ Ax0 len0 cx0 (1) z0 Bx0 m0 dx0 y0 _ (by omega) (by unfold maxLen; omega) (tnow Rx0_17)).mono ?_
  rintro e w12 ⟨rfl, ho, hW⟩
  have BW18 := Lib.hid (Wrote.below BW17.out hW (fun k hk => Nat.le_trans (Nat.le_trans (Nat.le_of_succ_le sz1.out) (Nat.le_trans sz2.out (Nat.le_trans sz3.out (Nat.le_trans sz4.out (Nat.le_trans sz5.out (Nat.le_of_succ_le sz6.out)))))) (Ux0.out k hk).1) (Nat.le_trans (Nat.le_of_succ_le sz1.out) (Nat.le_trans sz2.out (Nat.le_trans sz3.out (Nat.le_trans sz4.out (Nat.le_trans sz5.out (Nat.le_trans (Nat.le_of_succ_le sz6.out) (Nat.le_trans sz7.out (Nat.le_trans (Nat.le_of_succ_le sz8.out) (Nat.le_trans sz9.out (Nat.le_trans sz10.out (Nat.le_trans (Nat.le_of_succ_le sz11.out) (Nat.le_trans sz12.out (Nat.le_trans sz13.out (Nat.le_trans sz14.out (Nat.le_trans sz15.out (Nat.le_trans sz16.out sz17.out)))))))))))))))))
  have sz18 : Hid (w11.heap.size ≤ w12.heap.size) := hW.size
  have Rw0_18 := Lib.hid (Rw0_17.out.wrote hW (two_none Uw0 Ux0 (.inl (Nat.le_of_succ_le sz6.out))))
  have Rx1_18 := Lib.hid (Rx1_17.out.wrote hW (two_none Ux1 Ux0 (.inr (Nat.le_of_succ_le sz8.out))))
  have Rg0_18 := Lib.hid (Rg0_17.out.wrote hW (two_none Ug0 Ux0 (.inr (Nat.le_trans (Nat.le_of_succ_le sz8.out) sz9.out))))
  have XaS_18 := Lib.hid (XaS_17.out.wrote hW Ux0 (.inl (Nat.lt_of_lt_of_le (Nat.lt_of_succ_le sz1.out) (Nat.le_trans sz2.out (Nat.le_trans sz3.out (Nat.le_trans sz4.out (Nat.le_trans sz5.out (Nat.le_of_succ_le sz6.out))))))))
  have Xw0_18 := Lib.hid (Xw0_17.out.wrote hW Ux0 (.inl (Nat.lt_of_lt_of_le (Nat.lt_of_succ_le sz6.out) (Nat.le_refl _))))
  have Xx0_18 := Lib.hid (Xx0_17.out.wrote hW Ux0 (.inr (Nat.le_refl _)))
  have Xg0_18 := Lib.hid (Xg0_17.out.wrote hW Ux0 (.inr (Nat.le_trans (Nat.le_of_succ_le sz8.out) (Nat.le_trans sz9.out sz10.out))))
  have Rx0_18 := Lib.hid ho.holds
  clear ho hW
  clear Rx0_18 Ux0 Xx0_18
  go_wp2_with fail
  refine (markIntS_own _ Ax1 len1 cx1 (1 + 4 * len0 + 3 * m0) _ _ (by unfold maxLen; omega) (inow Rx1_18) (ints_are _)).mono ?_
  rintro e w13 ⟨rfl, ho, hg⟩
  have hW := Wrote.of_grown hg
  have BW19 := Lib.hid (Wrote.below BW18.out hW (fun k hk => Nat.le_trans (Nat.le_trans (Nat.le_of_succ_le sz1.out) (Nat.le_trans sz2.out (Nat.le_trans sz3.out (Nat.le_trans sz4.out (Nat.le_trans sz5.out (Nat.le_trans (Nat.le_of_succ_le sz6.out) (Nat.le_trans sz7.out (Nat.le_of_succ_le sz8.out)))))))) (Ux1.out k hk).1) (Nat.le_trans (Nat.le_of_succ_le sz1.out) (Nat.le_trans sz2.out (Nat.le_trans sz3.out (Nat.le_trans sz4.out (Nat.le_trans sz5.out (Nat.le_trans (Nat.le_of_succ_le sz6.out) (Nat.le_trans sz7.out (Nat.le_trans (Nat.le_of_succ_le sz8.out) (Nat.le_trans sz9.out (Nat.le_trans sz10.out (Nat.le_trans (Nat.le_of_succ_le sz11.out) (Nat.le_trans sz12.out (Nat.le_trans sz13.out (Nat.le_trans sz14.out (Nat.le_trans sz15.out (Nat.le_trans sz16.out (Nat.le_trans sz17.out sz18.out))))))))))))))))))
  have sz19 : Hid (w12.heap.size ≤ w13.heap.size) := hW.size
  have Rw0_19 := Lib.hid (Rw0_18.out.wrote hW (two_none Uw0 Ux1 (.inl (Nat.le_trans (Nat.le_of_succ_le sz6.out) (Nat.le_trans sz7.out (Nat.le_of_succ_le sz8.out))))))
  have Rg0_19 := Lib.hid (Rg0_18.out.wrote hW (two_none Ug0 Ux1 (.inr (Nat.le_refl _))))
  have XaS_19 := Lib.hid (XaS_18.out.wrote hW Ux1 (.inl (Nat.lt_of_lt_of_le (Nat.lt_of_succ_le sz1.out) (Nat.le_trans sz2.out (Nat.le_trans sz3.out (Nat.le_trans sz4.out (Nat.le_trans sz5.out (Nat.le_trans (Nat.le_of_succ_le sz6.out) (Nat.le_trans sz7.out (Nat.le_of_succ_le sz8.out))))))))))
  have Xw0_19 := Lib.hid (Xw0_18.out.wrote hW Ux1 (.inl (Nat.lt_of_lt_of_le (Nat.lt_of_succ_le sz6.out) (Nat.le_trans sz7.out (Nat.le_of_succ_le sz8.out)))))
  have Xg0_19 := Lib.hid (Xg0_18.out.wrote hW Ux1 (.inr sz10.out))
  have Rx1_19 := Lib.hid (own_holds ho)
  clear hg
  clear ho hW
  clear Rx1_19 Ux1
  have eg00a : w13.cell? ⟨w6.heap.size, 0, none⟩ = some (.slice Ag0 N0 cg0) := Xg0_19.out.cell 0
  have eg01a : w13.cell? ⟨w6.heap.size, 1, none⟩ = some (.slice Bg0 M0 dg0) := Xg0_19.out.cell 1
  have ew00a : w13.cell? ⟨w3.heap.size, 0, none⟩ = some (.slice Aw0 N0 cw0) := Xw0_19.out.cell 0
  have ew01a : w13.cell? ⟨w3.heap.size, 1, none⟩ = some (.slice Bw0 M0 dw0) := Xw0_19.out.cell 1
  go_wp2_with fail
  clear eg00a eg01a ew00a ew01a
  refine (eqStructure_same Ag0 Aw0 N0 cg0 cw0 r1_0 Bg0 Bw0 M0 dg0 dw0 s1_0 _ (tin Rg0_19 Ftr1_0 (by omega) (by omega)) (tin Rw0_19 Ftr1_0 (by omega) (by omega))).mono ?_
  rintro e w14 ⟨rfl, hb⟩
  have BW20 := Lib.hid (BW19.out.trans (hb.mono BW19.out.size))
  have sz20 : Hid (w13.heap.size ≤ w14.heap.size) := hb.size
  have Rw0_20 := Lib.hid (Rw0_19.out.below hb)
  have Rg0_20 := Lib.hid (Rg0_19.out.below hb)
  have XaS_20 := Lib.hid (XaS_19.out.below hb XaS_19.out.lt)
  have Xw0_20 := Lib.hid (Xw0_19.out.below hb Xw0_19.out.lt)
  have Xg0_20 := Lib.hid (Xg0_19.out.below hb Xg0_19.out.lt)
  clear hb
  have eg00a : w14.cell? ⟨w6.heap.size, 0, none⟩ = some (.slice Ag0 N0 cg0) := Xg0_20.out.cell 0
  have eg01a : w14.cell? ⟨w6.heap.size, 1, none⟩ = some (.slice Bg0 M0 dg0) := Xg0_20.out.cell 1
  go_wp2_with fail
  clear eg00a eg01a
  refine (markStructure_own _ Ag0 N0 cg0 (1) r1_0 Bg0 M0 dg0 s1_0 _ (by omega) (by unfold maxLen; omega) (tnow Rg0_20)).mono ?_
  rintro e w15 ⟨rfl, ho, hW⟩
  have BW21 := Lib.hid (Wrote.below BW20.out hW (fun k hk => Nat.le_trans (Nat.le_trans (Nat.le_of_succ_le sz1.out) (Nat.le_trans sz2.out (Nat.le_trans sz3.out (Nat.le_trans sz4.out (Nat.le_trans sz5.out (Nat.le_trans (Nat.le_of_succ_le sz6.out) (Nat.le_trans sz7.out (Nat.le_trans (Nat.le_of_succ_le sz8.out) sz9.out)))))))) (Ug0.out k hk).1) (Nat.le_trans (Nat.le_of_succ_le sz1.out) (Nat.le_trans sz2.out (Nat.le_trans sz3.out (Nat.le_trans sz4.out (Nat.le_trans sz5.out (Nat.le_trans (Nat.le_of_succ_le sz6.out) (Nat.le_trans sz7.out (Nat.le_trans (Nat.le_of_succ_le sz8.out) (Nat.le_trans sz9.out (Nat.le_trans sz10.out (Nat.le_trans (Nat.le_of_succ_le sz11.out) (Nat.le_trans sz12.out (Nat.le_trans sz13.out (Nat.le_trans sz14.out (Nat.le_trans sz15.out (Nat.le_trans sz16.out (Nat.le_trans sz17.out (Nat.le_trans sz18.out (Nat.le_trans sz19.out sz20.out))))))))))))))))))))
  have sz21 : Hid (w14.heap.size ≤ w15.heap.size) := hW.size
  have Rw0_21 := Lib.hid (Rw0_20.out.wrote hW (two_none Uw0 Ug0 (.inl (Nat.le_trans (Nat.le_of_succ_le sz6.out) (Nat.le_trans sz7.out (Nat.le_trans (Nat.le_of_succ_le sz8.out) sz9.out))))))
  have XaS_21 := Lib.hid (XaS_20.out.wrote hW Ug0 (.inl (Nat.lt_of_lt_of_le (Nat.lt_of_succ_le sz1.out) (Nat.le_trans sz2.out (Nat.le_trans sz3.out (Nat.le_trans sz4.out (Nat.le_trans sz5.out (Nat.le_trans (Nat.le_of_succ_le sz6.out) (Nat.le_trans sz7.out (Nat.le_trans (Nat.le_of_succ_le sz8.out) sz9.out))))))))))
  have Xw0_21 := Lib.hid (Xw0_20.out.wrote hW Ug0 (.inl (Nat.lt_of_lt_of_le (Nat.lt_of_succ_le sz6.out) (Nat.le_trans sz7.out (Nat.le_trans (Nat.le_of_succ_le sz8.out) sz9.out)))))
  have Xg0_21 := Lib.hid (Xg0_20.out.wrote hW Ug0 (.inr (Nat.le_refl _)))
  have Rg0_21 := Lib.hid ho.holds
  clear ho hW
  have eg00a : w15.cell? ⟨w6.heap.size, 0, none⟩ = some (.slice Ag0 N0 cg0) := Xg0_21.out.cell 0
  have eg01a : w15.cell? ⟨w6.heap.size, 1, none⟩ = some (.slice Bg0 M0 dg0) := Xg0_21.out.cell 1
  go_wp2_with fail
  clear eg00a eg01a
  refine (heldStructure_same Ag0 N0 cg0 Bg0 M0 dg0 (1) _ (by omega) (by unfold maxLen; omega) (reads_ownJ (tnow Rg0_21).1) (reads_ownM (tnow Rg0_21).2.1)).mono ?_
  rintro e w16 ⟨rfl, hb⟩
  have BW22 := Lib.hid (BW21.out.trans (hb.mono BW21.out.size))
  have sz22 : Hid (w15.heap.size ≤ w16.heap.size) := hb.size
  have Rw0_22 := Lib.hid (Rw0_21.out.below hb)
  have Rg0_22 := Lib.hid (Rg0_21.out.below hb)
  have XaS_22 := Lib.hid (XaS_21.out.below hb XaS_21.out.lt)
  have Xw0_22 := Lib.hid (Xw0_21.out.below hb Xw0_21.out.lt)
  have Xg0_22 := Lib.hid (Xg0_21.out.below hb Xg0_21.out.lt)
  clear hb
  have eaS0a : w16.cell? ⟨w.heap.size, 0, none⟩ = some (.slice a0 len0 cap0) := XaS_22.out.cell 0
  have eaS1a : w16.cell? ⟨w.heap.size, 1, none⟩ = some (.slice b0 m0 d0) := XaS_22.out.cell 1
  go_wp2_with fail
  clear eaS0a eaS1a
  refine (toStructure_any a0 len0 cap0 z0 b0 m0 d0 y0 _ (Inz0.out.below BW22.out)).mono ?_
  rintro e w17 ⟨At5, ct5, Bt5, dt5, rfl, ho, hb⟩
  have BW23 := Lib.hid (BW22.out.trans (hb.mono BW22.out.size))
  have sz23 : Hid (w16.heap.size ≤ w17.heap.size) := hb.size
  have Rw0_23 := Lib.hid (Rw0_22.out.below hb)
  have Rg0_23 := Lib.hid (Rg0_22.out.below hb)
  have XaS_23 := Lib.hid (XaS_22.out.below hb XaS_22.out.lt)
  have Xw0_23 := Lib.hid (Xw0_22.out.below hb Xw0_22.out.lt)
  have Xg0_23 := Lib.hid (Xg0_22.out.below hb Xg0_22.out.lt)
  have Ut5 := Lib.hid ho.lt
  have Rt5_23 := Lib.hid ho.holds
  clear ho hb
  go_wp2_with fail
  refine (toIntS_any a1 len1 cap1 z1 _ Inz1.out.len Inz1.out.le (Inz1.out.rd.below BW23.out)).mono ?_
  rintro e w18 ⟨v, rfl, ho, hb⟩
  have BW24 := Lib.hid (BW23.out.trans (hb.mono BW23.out.size))
  have sz24 : Hid (w17.heap.size ≤ w18.heap.size) := hb.size
  have Rw0_24 := Lib.hid (Rw0_23.out.below hb)
  have Rg0_24 := Lib.hid (Rg0_23.out.below hb)
  have Rt5_24 := Lib.hid (Rt5_23.out.below hb)
  have XaS_24 := Lib.hid (XaS_23.out.below hb XaS_23.out.lt)
  have Xw0_24 := Lib.hid (Xw0_23.out.below hb Xw0_23.out.lt)
  have Xg0_24 := Lib.hid (Xg0_23.out.below hb Xg0_23.out.lt)
  obtain ⟨At6, ct6, rfl⟩ := own_slice ho
  have Ut6 := Lib.hid (show ∀ k, blk _ k → _ ∧ _ from fun k hk => ho.lt k hk)
  have Rt6_24 := Lib.hid (own_holds ho)
  clear ho hb
  go_wp2_with fail
  refine (impl_withoutMembers At5 len0 ct5 z0 Bt5 m0 dt5 y0 At6 len1 ct6 z1 _ (tin Rt5_24 Ftz0 (by omega) (by omega)) (Inz1.out.own (inow Rt6_24))).mono ?_
  rintro e w19 ⟨r3_0, v0, s3_0, u0, rfl, his, h0, hb⟩
  have BW25 := Lib.hid (BW24.out.trans (hb.mono BW24.out.size))
  have sz25 : Hid (w18.heap.size ≤ w19.heap.size) := hb.size
  have Rw0_25 := Lib.hid (Rw0_24.out.below hb)
  have Rg0_25 := Lib.hid (Rg0_24.out.below hb)
  have Rt5_25 := Lib.hid (Rt5_24.out.below hb)
  have Rt6_25 := Lib.hid (Rt6_24.out.below hb)
  have XaS_25 := Lib.hid (XaS_24.out.below hb XaS_24.out.lt)
  have Xw0_25 := Lib.hid (Xw0_24.out.below hb Xw0_24.out.lt)
  have Xg0_25 := Lib.hid (Xg0_24.out.below hb Xg0_24.out.lt)
  obtain ⟨rfl, rfl⟩ := withoutMembers_unique IS.out his
  clear his
  obtain ⟨h0, k0, ap1, hl, hm, i1, i2⟩ := h0
  rw [HN0.out] at h0
  rw [HM0.out] at k0
  clear hl hm
  clear i1 i2
  obtain ⟨Ah0, ch0, rfl⟩ := own_slice h0
  obtain ⟨Bh0, dh0, rfl⟩ := own_slice k0
  have ho : OwnT w19 w18.heap.size Ah0 N0 ch0 r1_0 Bh0 M0 dh0 s1_0 := ⟨h0, k0, ap1⟩
  have Uh0 := Lib.hid ho.lt
  have Rh0_25 := Lib.hid ho.holds
  clear ho h0 k0 ap1
  clear hb
  clear Rt5_25 Ut5
  clear Rt6_25 Ut6
  have BW26 := Lib.hid (BW25.out.alloc BW25.out.size (.cells #[.slice Ah0 N0 ch0, .slice Bh0 M0 dh0] 48))
  have sz26 : Hid (w19.heap.size + 1 ≤ (w19.alloc (.cells #[.slice Ah0 N0 ch0, .slice Bh0 M0 dh0] 48)).heap.size) := Lib.hid (by simp)
  have Rw0_26 := Lib.hid (Rw0_25.out.alloc (.cells #[.slice Ah0 N0 ch0, .slice Bh0 M0 dh0] 48))
  have Rg0_26 := Lib.hid (Rg0_25.out.alloc (.cells #[.slice Ah0 N0 ch0, .slice Bh0 M0 dh0] 48))
  have Rh0_26 := Lib.hid (Rh0_25.out.alloc (.cells #[.slice Ah0 N0 ch0, .slice Bh0 M0 dh0] 48))
  have XaS_26 := Lib.hid (XaS_25.out.alloc (.cells #[.slice Ah0 N0 ch0, .slice Bh0 M0 dh0] 48))
  have Xw0_26 := Lib.hid (Xw0_25.out.alloc (.cells #[.slice Ah0 N0 ch0, .slice Bh0 M0 dh0] 48))
  have Xg0_26 := Lib.hid (Xg0_25.out.alloc (.cells #[.slice Ah0 N0 ch0, .slice Bh0 M0 dh0] 48))
  have Xh0_26 := Lib.hid (Box.new w19 48 #[.slice Ah0 N0 ch0, .slice Bh0 M0 dh0])
  have ew00a : w19.cell? ⟨w3.heap.size, 0, none⟩ = some (.slice Aw0 N0 cw0) := Xw0_25.out.cell 0
  have ew01a : w19.cell? ⟨w3.heap.size, 1, none⟩ = some (.slice Bw0 M0 dw0) := Xw0_25.out.cell 1
  have ew00b : (w19.alloc (.cells #[.slice Ah0 N0 ch0, .slice Bh0 M0 dh0] 48)).cell? ⟨w3.heap.size, 0, none⟩ = some (.slice Aw0 N0 cw0) := Xw0_26.out.cell 0
  have ew01b : (w19.alloc (.cells #[.slice Ah0 N0 ch0, .slice Bh0 M0 dh0] 48)).cell? ⟨w3.heap.size, 1, none⟩ = some (.slice Bw0 M0 dw0) := Xw0_26.out.cell 1
  have new00 : w19.heap.size ≠ w3.heap.size := (by have := Xw0_25.out.lt; omega)
  go_wp2_with fail
  clear ew00a ew01a ew00b ew01b new00
  refine (eqStructure_same Ah0 Aw0 N0 ch0 cw0 r1_0 Bh0 Bw0 M0 dh0 dw0 s1_0 _ (tin Rh0_26 Ftr1_0 (by omega) (by omega)) (tin Rw0_26 Ftr1_0 (by omega) (by omega))).mono ?_
  rintro e w20 ⟨rfl, hb⟩
  have BW27 := Lib.hid (BW26.out.trans (hb.mono BW26.out.size))
  have sz27 : Hid ((w19.alloc (.cells #[.slice Ah0 N0 ch0, .slice Bh0 M0 dh0] 48)).heap.size ≤ w20.heap.size) := hb.size
  have Rw0_27 := Lib.hid (Rw0_26.out.below hb)
  have Rg0_27 := Lib.hid (Rg0_26.out.below hb)
  have Rh0_27 := Lib.hid (Rh0_26.out.below hb)
  have XaS_27 := Lib.hid (XaS_26.out.below hb XaS_26.out.lt)
  have Xw0_27 := Lib.hid (Xw0_26.out.below hb Xw0_26.out.lt)
  have Xg0_27 := Lib.hid (Xg0_26.out.below hb Xg0_26.out.lt)
  have Xh0_27 := Lib.hid (Xh0_26.out.below hb Xh0_26.out.lt)
  clear hb
  clear Rw0_27 Uw0 Xw0_27
  clear Rh0_27 Uh0 Xh0_27
  have eg00a : w20.cell? ⟨w6.heap.size, 0, none⟩ = some (.slice Ag0 N0 cg0) := Xg0_27.out.cell 0
  have eg01a : w20.cell? ⟨w6.heap.size, 1, none⟩ = some (.slice Bg0 M0 dg0) := Xg0_27.out.cell 1
  go_wp2_with fail
  clear eg00a eg01a
  refine (heldStructure_same Ag0 N0 cg0 Bg0 M0 dg0 (1) _ (by omega) (by unfold maxLen; omega) (reads_ownJ (tnow Rg0_27).1) (reads_ownM (tnow Rg0_27).2.1)).mono ?_
  rintro e w21 ⟨rfl, hb⟩
  have BW28 := Lib.hid (BW27.out.trans (hb.mono BW27.out.size))
  have sz28 : Hid (w20.heap.size ≤ w21.heap.size) := hb.size
  have Rg0_28 := Lib.hid (Rg0_27.out.below hb)
  have XaS_28 := Lib.hid (XaS_27.out.below hb XaS_27.out.lt)
  have Xg0_28 := Lib.hid (Xg0_27.out.below hb Xg0_27.out.lt)
  clear hb
  clear Rg0_28 Ug0 Xg0_28
  go_wp2_with fail
  go_ret
  exact ⟨rfl, BW28.out⟩
end Go.Proofs.Ytcmbfgaojlnjcaa.fnExactWithoutMembers
