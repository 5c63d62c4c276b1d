/- The walk of the law: for all arguments the law FnExactSameStructures returns true: the program's SameStructures answers as the model's; no condition on them. -/
import Derived.Test.YtcmbfgaojlnjcaaStM6
import Derived.Test.YtcmbfgaojlnjcaaStQ2
import Derived.ProofKit
import Derived.OpenShut
import Derived.ShutString
import Derived.Lib.SmallJoins
namespace Go.Proofs.Ytcmbfgaojlnjcaa.fnExactSameStructures
set_option maxRecDepth 100000
open Go.ChangeShapes Go.WideShapes Go.ChangeAt Go.RowKit Go.Joins Go.Deep
open Go.ChangeMaps (open_string shut_string)

set_option maxRecDepth 100000 in
set_option maxHeartbeats 16000000 in
theorem walk {w : World} (a0 : Option Addr) (len0 cap0 : Nat) (z0 : List JD) (hz0 : IsJ w a0 len0 z0) (b0 : Option Addr) (m0 d0 : Nat) (y0 : List MD) (hy0 : IsM w b0 m0 y0) (a1 : Option Addr) (len1 cap1 : Nat) (z1 : List JD) (hz1 : IsJ w a1 len1 z1) (b1 : Option Addr) (m1 d1 : Nat) (y1 : List MD) (hy1 : IsM w b1 m1 y1) :
    Calls Try.prog 13 #[.agg #[.slice a0 len0 cap0, .slice b0 m0 d0], .agg #[.slice a1 len1 cap1, .slice b1 m1 d1]] w fun e w' => e = .returned (.bool true) ∧ Below w.heap.size w w' := by
  have hmz0 : len0 ≤ maxLen := hz0.2.1
  have Hz0 := Lib.hid hz0
  clear hz0
  have hmy0 : m0 ≤ maxLen := hy0.2.1
  have Hy0 := Lib.hid hy0
  clear hy0
  have hmz1 : len1 ≤ maxLen := hz1.2.1
  have Hz1 := Lib.hid hz1
  clear hz1
  have hmy1 : m1 ≤ maxLen := hy1.2.1
  have Hy1 := Lib.hid hy1
  clear hy1
  have BW0 : Hid (Below w.heap.size w w) := Below.refl _ _
  have BW1 := Lib.hid (BW0.out.alloc BW0.out.size (.cells #[.slice a0 len0 cap0, .slice b0 m0 d0] 42))
  have sz1 : Hid (w.heap.size + 1 ≤ (w.alloc (.cells #[.slice a0 len0 cap0, .slice b0 m0 d0] 42)).heap.size) := Lib.hid (by simp)
  have XaA_1 := Lib.hid (Box.new w 42 #[.slice a0 len0 cap0, .slice b0 m0 d0])
  have BW2 := Lib.hid (BW1.out.alloc BW1.out.size (.cells #[.slice a1 len1 cap1, .slice b1 m1 d1] 42))
  have sz2 : Hid ((w.alloc (.cells #[.slice a0 len0 cap0, .slice b0 m0 d0] 42)).heap.size + 1 ≤ ((w.alloc (.cells #[.slice a0 len0 cap0, .slice b0 m0 d0] 42)).alloc (.cells #[.slice a1 len1 cap1, .slice b1 m1 d1] 42)).heap.size) := Lib.hid (by simp)
  have XaA_2 := Lib.hid (XaA_1.out.alloc (.cells #[.slice a1 len1 cap1, .slice b1 m1 d1] 42))
  have XaB_2 : Hid (Box ((w.alloc (.cells #[.slice a0 len0 cap0, .slice b0 m0 d0] 42)).alloc (.cells #[.slice a1 len1 cap1, .slice b1 m1 d1] 42)) (w.heap.size + 1) 42 #[.slice a1 len1 cap1, .slice b1 m1 d1]) := Lib.hid (Box.at' (by simp))
  go_enter Try.func13, Try.ntmps13
  have eaA0a : ((w.alloc (.cells #[.slice a0 len0 cap0, .slice b0 m0 d0] 42)).alloc (.cells #[.slice a1 len1 cap1, .slice b1 m1 d1] 42)).cell? ⟨w.heap.size, 0, none⟩ = some (.slice a0 len0 cap0) := XaA_2.out.cell 0
  have eaA1a : ((w.alloc (.cells #[.slice a0 len0 cap0, .slice b0 m0 d0] 42)).alloc (.cells #[.slice a1 len1 cap1, .slice b1 m1 d1] 42)).cell? ⟨w.heap.size, 1, none⟩ = some (.slice b0 m0 d0) := XaA_2.out.cell 1
  go_wp2_with fail
  clear eaA0a eaA1a
  refine (szStructure_any a0 len0 cap0 z0 b0 m0 d0 (1048576 : Int) _ (Hz0.out.below BW2.out) hmy0 (by omega) (by omega)).mono ?_
  rintro e ws0 ⟨lf0, rfl, hr, hb⟩
  have BW3 := Lib.hid (BW2.out.trans (hb.mono BW2.out.size))
  have sz3 : Hid (((w.alloc (.cells #[.slice a0 len0 cap0, .slice b0 m0 d0] 42)).alloc (.cells #[.slice a1 len1 cap1, .slice b1 m1 d1] 42)).heap.size ≤ ws0.heap.size) := hb.size
  have XaA_3 := Lib.hid (XaA_2.out.below hb XaA_2.out.lt)
  have XaB_3 := Lib.hid (XaB_2.out.below hb XaB_2.out.lt)
  clear hb
  rcases hr with rfl | ⟨h0, hr⟩
  · go_wp2_with fail
    go_ret
    exact ⟨rfl, BW3.out⟩
  have lb0 : 0 ≤ lf0 ∧ lf0 ≤ 1048576 := by omega
  have ls0 : lf0 + ((len0 : Int) + jtot z0 + m0) = (1048576 : Int) := by omega
  have HLS0 := Lib.hid ls0
  have lt0 : len0 + jtot z0 + m0 ≤ 1048576 := by omega
  clear ls0 hr
  have h00 := h0
  clear h0
  have Inz0 : Hid (InT w a0 len0 z0 b0 m0 y0) := ⟨Hz0.out.inJ (by omega), Hy0.out.inM (by omega)⟩
  have Ftz0 : Hid (TFit len0 z0 m0 y0) := ⟨Inz0.out.1.1, Inz0.out.2.1, Inz0.out.1.2.2.2, Inz0.out.2.2.2.2⟩
  have eaB0a : ws0.cell? ⟨w.heap.size + 1, 0, none⟩ = some (.slice a1 len1 cap1) := XaB_3.out.cell 0
  have eaB1a : ws0.cell? ⟨w.heap.size + 1, 1, none⟩ = some (.slice b1 m1 d1) := XaB_3.out.cell 1
  go_wp2_with fail
  clear eaB0a eaB1a
  refine (szStructure_any a1 len1 cap1 z1 b1 m1 d1 lf0 _ (Hz1.out.below BW3.out) hmy1 (by omega) (by omega)).mono ?_
  rintro e ws1 ⟨lf1, rfl, hr, hb⟩
  have BW4 := Lib.hid (BW3.out.trans (hb.mono BW3.out.size))
  have sz4 : Hid (ws0.heap.size ≤ ws1.heap.size) := hb.size
  have XaA_4 := Lib.hid (XaA_3.out.below hb XaA_3.out.lt)
  have XaB_4 := Lib.hid (XaB_3.out.below hb XaB_3.out.lt)
  clear hb
  rcases hr with rfl | ⟨h0, hr⟩
  · go_wp2_with fail
    go_ret
    exact ⟨rfl, BW4.out⟩
  have lb1 : 0 ≤ lf1 ∧ lf1 ≤ 1048576 := by omega
  have ls1 : lf1 + ((len1 : Int) + jtot z1 + m1) = lf0 := by omega
  have HLS1 := Lib.hid ls1
  have lt1 : len1 + jtot z1 + m1 ≤ 1048576 := by omega
  clear ls1 hr
  have h01 := h0
  clear h0
  have Inz1 : Hid (InT w a1 len1 z1 b1 m1 y1) := ⟨Hz1.out.inJ (by omega), Hy1.out.inM (by omega)⟩
  have Ftz1 : Hid (TFit len1 z1 m1 y1) := ⟨Inz1.out.1.1, Inz1.out.2.1, Inz1.out.1.2.2.2, Inz1.out.2.2.2.2⟩
  go_wp2_with fail
  have BW5 := Lib.hid BW4.out.drew
  have sz5 : Hid (ws1.heap.size ≤ ws1.drew.heap.size) := Nat.le_refl _
  have XaA_5 := Lib.hid XaA_4.out.drew
  have XaB_5 := Lib.hid XaB_4.out.drew
  have cvaA0 : Hid ((#[.slice a0 len0 cap0, .slice b0 m0 d0] : Array Value)[0]? = some (.slice a0 len0 cap0)) := rfl
  have cvaA1 : Hid ((#[.slice a0 len0 cap0, .slice b0 m0 d0] : Array Value)[1]? = some (.slice b0 m0 d0)) := rfl
  have cvaB0 : Hid ((#[.slice a1 len1 cap1, .slice b1 m1 d1] : Array Value)[0]? = some (.slice a1 len1 cap1)) := rfl
  have cvaB1 : Hid ((#[.slice a1 len1 cap1, .slice b1 m1 d1] : Array Value)[1]? = some (.slice b1 m1 d1)) := rfl
  go_region_held3 (fun w' => w'.cell? ⟨w.heap.size, 0, none⟩ = some (.slice a0 len0 cap0) ∧ w'.cell? ⟨w.heap.size, 1, none⟩ = some (.slice b0 m0 d0) ∧ w'.cell? ⟨w.heap.size + 1, 0, none⟩ = some (.slice a1 len1 cap1) ∧ w'.cell? ⟨w.heap.size + 1, 1, none⟩ = some (.slice b1 m1 d1)) (first | with_reducible exact ⟨cellS XaA_8 cvaA0, cellS XaA_8 cvaA1, cellS XaB_8 cvaB0, cellS XaB_8 cvaB1⟩ | with_reducible exact ⟨cellS XaA_7 cvaA0, cellS XaA_7 cvaA1, cellS XaB_7 cvaB0, cellS XaB_7 cvaB1⟩ | with_reducible exact ⟨cellS XaA_6 cvaA0, cellS XaA_6 cvaA1, cellS XaB_6 cvaB0, cellS XaB_6 cvaB1⟩ | with_reducible exact ⟨cellS XaA_5 cvaA0, cellS XaA_5 cvaA1, cellS XaB_5 cvaB0, cellS XaB_5 cvaB1⟩) (first | (go_at_call 50; (with_reducible refine (spec_sameStructures At1 len0 ct1 z0 Bt1 m0 dt1 y0 At2 len1 ct2 z1 Bt2 m1 dt2 y1 _ (tin Rt1_7 Ftz0 (by omega) (by omega)) (tin Rt2_7 Ftz1 (by omega) (by omega))).mono ?_); rintro e w3 ⟨r1_0, rfl, his, hb⟩; have BW8 := Lib.hid (BW7.out.trans (hb.mono BW7.out.size)); have sz8 : Hid (w2.heap.size ≤ w3.heap.size) := hb.size; have Rt1_8 := Lib.hid (Rt1_7.out.below hb); have Rt2_8 := Lib.hid (Rt2_7.out.below hb); have XaA_8 := Lib.hid (XaA_7.out.below hb XaA_7.out.lt); have XaB_8 := Lib.hid (XaB_7.out.below hb XaB_7.out.lt); have IS := Lib.hid his; clear his; clear hb; clear Rt1_8 Ut1; clear Rt2_8 Ut2) | (go_at_call 29; (with_reducible refine (toStructure_any a1 len1 cap1 z1 b1 m1 d1 y1 _ (Inz1.out.below BW6.out)).mono ?_); rintro e w2 ⟨At2, ct2, Bt2, dt2, rfl, ho, hb⟩; have BW7 := Lib.hid (BW6.out.trans (hb.mono BW6.out.size)); have sz7 : Hid (w1.heap.size ≤ w2.heap.size) := hb.size; have Rt1_7 := Lib.hid (Rt1_6.out.below hb); have XaA_7 := Lib.hid (XaA_6.out.below hb XaA_6.out.lt); have XaB_7 := Lib.hid (XaB_6.out.below hb XaB_6.out.lt); have Ut2 := Lib.hid ho.lt; have Rt2_7 := Lib.hid ho.holds; clear ho hb) | (go_at_call 29; (with_reducible refine (toStructure_any a0 len0 cap0 z0 b0 m0 d0 y0 _ (Inz0.out.below BW5.out)).mono ?_); rintro e w1 ⟨At1, ct1, Bt1, dt1, rfl, ho, hb⟩; have BW6 := Lib.hid (BW5.out.trans (hb.mono BW5.out.size)); have sz6 : Hid (ws1.drew.heap.size ≤ w1.heap.size) := hb.size; have XaA_6 := Lib.hid (XaA_5.out.below hb XaA_5.out.lt); have XaB_6 := Lib.hid (XaB_5.out.below hb XaB_5.out.lt); have Ut1 := Lib.hid ho.lt; have Rt1_6 := Lib.hid ho.holds; clear ho hb))
  clear cvaA0 cvaA1 cvaB0 cvaB1
  have eaA0a : w3.cell? ⟨w.heap.size, 0, none⟩ = some (.slice a0 len0 cap0) := XaA_8.out.cell 0
  have eaA1a : w3.cell? ⟨w.heap.size, 1, none⟩ = some (.slice b0 m0 d0) := XaA_8.out.cell 1
  go_wp2_with fail
  clear eaA0a eaA1a
  refine (toStructure_any a0 len0 cap0 z0 b0 m0 d0 y0 _ (Inz0.out.below BW8.out)).mono ?_
  rintro e w4 ⟨Ax0, cx0, Bx0, dx0, rfl, ho, hb⟩
  have BW9 := Lib.hid (BW8.out.trans (hb.mono BW8.out.size))
  have sz9 : Hid (w3.heap.size ≤ w4.heap.size) := hb.size
  have XaA_9 := Lib.hid (XaA_8.out.below hb XaA_8.out.lt)
  have XaB_9 := Lib.hid (XaB_8.out.below hb XaB_8.out.lt)
  have Ux0 := Lib.hid ho.lt
  have Rx0_9 := Lib.hid ho.holds
  clear ho hb
  have BW10 := Lib.hid (BW9.out.alloc BW9.out.size (.cells #[.slice Ax0 len0 cx0, .slice Bx0 m0 dx0] 48))
  have sz10 : Hid (w4.heap.size + 1 ≤ (w4.alloc (.cells #[.slice Ax0 len0 cx0, .slice Bx0 m0 dx0] 48)).heap.size) := Lib.hid (by simp)
  have Rx0_10 := Lib.hid (Rx0_9.out.alloc (.cells #[.slice Ax0 len0 cx0, .slice Bx0 m0 dx0] 48))
  have XaA_10 := Lib.hid (XaA_9.out.alloc (.cells #[.slice Ax0 len0 cx0, .slice Bx0 m0 dx0] 48))
  have XaB_10 := Lib.hid (XaB_9.out.alloc (.cells #[.slice Ax0 len0 cx0, .slice Bx0 m0 dx0] 48))
  have Xx0_10 := Lib.hid (Box.new w4 48 #[.slice Ax0 len0 cx0, .slice Bx0 m0 dx0])
  have eaB0a : w4.cell? ⟨w.heap.size + 1, 0, none⟩ = some (.slice a1 len1 cap1) := XaB_9.out.cell 0
  have eaB1a : w4.cell? ⟨w.heap.size + 1, 1, none⟩ = some (.slice b1 m1 d1) := XaB_9.out.cell 1
  have eaB0b : (w4.alloc (.cells #[.slice Ax0 len0 cx0, .slice Bx0 m0 dx0] 48)).cell? ⟨w.heap.size + 1, 0, none⟩ = some (.slice a1 len1 cap1) := XaB_10.out.cell 0
  have eaB1b : (w4.alloc (.cells #[.slice Ax0 len0 cx0, .slice Bx0 m0 dx0] 48)).cell? ⟨w.heap.size + 1, 1, none⟩ = some (.slice b1 m1 d1) := XaB_10.out.cell 1
  have neaB0 : w4.heap.size ≠ w.heap.size + 1 := (by have := XaB_9.out.lt; omega)
  go_wp2_with fail
  clear eaB0a eaB1a eaB0b eaB1b neaB0
  refine (toStructure_any a1 len1 cap1 z1 b1 m1 d1 y1 _ (Inz1.out.below BW10.out)).mono ?_
  rintro e w5 ⟨Ax1, cx1, Bx1, dx1, rfl, ho, hb⟩
  have BW11 := Lib.hid (BW10.out.trans (hb.mono BW10.out.size))
  have sz11 : Hid ((w4.alloc (.cells #[.slice Ax0 len0 cx0, .slice Bx0 m0 dx0] 48)).heap.size ≤ w5.heap.size) := hb.size
  have Rx0_11 := Lib.hid (Rx0_10.out.below hb)
  have XaA_11 := Lib.hid (XaA_10.out.below hb XaA_10.out.lt)
  have XaB_11 := Lib.hid (XaB_10.out.below hb XaB_10.out.lt)
  have Xx0_11 := Lib.hid (Xx0_10.out.below hb Xx0_10.out.lt)
  have Ux1 := Lib.hid ho.lt
  have Rx1_11 := Lib.hid ho.holds
  clear ho hb
  have BW12 := Lib.hid (BW11.out.alloc BW11.out.size (.cells #[.slice Ax1 len1 cx1, .slice Bx1 m1 dx1] 48))
  have sz12 : Hid (w5.heap.size + 1 ≤ (w5.alloc (.cells #[.slice Ax1 len1 cx1, .slice Bx1 m1 dx1] 48)).heap.size) := Lib.hid (by simp)
  have Rx0_12 := Lib.hid (Rx0_11.out.alloc (.cells #[.slice Ax1 len1 cx1, .slice Bx1 m1 dx1] 48))
  have Rx1_12 := Lib.hid (Rx1_11.out.alloc (.cells #[.slice Ax1 len1 cx1, .slice Bx1 m1 dx1] 48))
  have XaA_12 := Lib.hid (XaA_11.out.alloc (.cells #[.slice Ax1 len1 cx1, .slice Bx1 m1 dx1] 48))
  have XaB_12 := Lib.hid (XaB_11.out.alloc (.cells #[.slice Ax1 len1 cx1, .slice Bx1 m1 dx1] 48))
  have Xx0_12 := Lib.hid (Xx0_11.out.alloc (.cells #[.slice Ax1 len1 cx1, .slice Bx1 m1 dx1] 48))
  have Xx1_12 := Lib.hid (Box.new w5 48 #[.slice Ax1 len1 cx1, .slice Bx1 m1 dx1])
  have ex00a : w5.cell? ⟨w4.heap.size, 0, none⟩ = some (.slice Ax0 len0 cx0) := Xx0_11.out.cell 0
  have ex01a : w5.cell? ⟨w4.heap.size, 1, none⟩ = some (.slice Bx0 m0 dx0) := Xx0_11.out.cell 1
  have ex00b : (w5.alloc (.cells #[.slice Ax1 len1 cx1, .slice Bx1 m1 dx1] 48)).cell? ⟨w4.heap.size, 0, none⟩ = some (.slice Ax0 len0 cx0) := Xx0_12.out.cell 0
  have ex01b : (w5.alloc (.cells #[.slice Ax1 len1 cx1, .slice Bx1 m1 dx1] 48)).cell? ⟨w4.heap.size, 1, none⟩ = some (.slice Bx0 m0 dx0) := Xx0_12.out.cell 1
  have nex00 : w5.heap.size ≠ w4.heap.size := (by have := Xx0_11.out.lt; omega)
  go_wp2_with fail
  clear ex00a ex01a ex00b ex01b nex00
  refine (impl_sameStructures Ax0 len0 cx0 z0 Bx0 m0 dx0 y0 Ax1 len1 cx1 z1 Bx1 m1 dx1 y1 _ (tin Rx0_12 Ftz0 (by omega) (by omega)) (tin Rx1_12 Ftz1 (by omega) (by omega))).mono ?_
  rintro e w6 ⟨r2_0, rfl, his, hb⟩
  have BW13 := Lib.hid (BW12.out.trans (hb.mono BW12.out.size))
  have sz13 : Hid ((w5.alloc (.cells #[.slice Ax1 len1 cx1, .slice Bx1 m1 dx1] 48)).heap.size ≤ w6.heap.size) := hb.size
  have Rx0_13 := Lib.hid (Rx0_12.out.below hb)
  have Rx1_13 := Lib.hid (Rx1_12.out.below hb)
  have XaA_13 := Lib.hid (XaA_12.out.below hb XaA_12.out.lt)
  have XaB_13 := Lib.hid (XaB_12.out.below hb XaB_12.out.lt)
  have Xx0_13 := Lib.hid (Xx0_12.out.below hb Xx0_12.out.lt)
  have Xx1_13 := Lib.hid (Xx1_12.out.below hb Xx1_12.out.lt)
  obtain rfl := sameStructures_unique IS.out his
  clear his
  clear hb
  go_wp2_with fail
  have BW14 := Lib.hid BW13.out.drew
  have sz14 : Hid (w6.heap.size ≤ w6.drew.heap.size) := Nat.le_refl _
  have Rx0_14 := Lib.hid Rx0_13.out.drew
  have Rx1_14 := Lib.hid Rx1_13.out.drew
  have XaA_14 := Lib.hid XaA_13.out.drew
  have XaB_14 := Lib.hid XaB_13.out.drew
  have Xx0_14 := Lib.hid Xx0_13.out.drew
  have Xx1_14 := Lib.hid Xx1_13.out.drew
  have cvx00 : Hid ((#[.slice Ax0 len0 cx0, .slice Bx0 m0 dx0] : Array Value)[0]? = some (.slice Ax0 len0 cx0)) := rfl
  have cvx01 : Hid ((#[.slice Ax0 len0 cx0, .slice Bx0 m0 dx0] : Array Value)[1]? = some (.slice Bx0 m0 dx0)) := rfl
  have cvaA0 : Hid ((#[.slice a0 len0 cap0, .slice b0 m0 d0] : Array Value)[0]? = some (.slice a0 len0 cap0)) := rfl
  have cvaA1 : Hid ((#[.slice a0 len0 cap0, .slice b0 m0 d0] : Array Value)[1]? = some (.slice b0 m0 d0)) := rfl
  go_region_held3 (fun w' => w'.cell? ⟨w4.heap.size, 0, none⟩ = some (.slice Ax0 len0 cx0) ∧ w'.cell? ⟨w4.heap.size, 1, none⟩ = some (.slice Bx0 m0 dx0) ∧ w'.cell? ⟨w.heap.size, 0, none⟩ = some (.slice a0 len0 cap0) ∧ w'.cell? ⟨w.heap.size, 1, none⟩ = some (.slice b0 m0 d0)) (first | with_reducible exact ⟨cellS Xx0_16 cvx00, cellS Xx0_16 cvx01, cellS XaA_16 cvaA0, cellS XaA_16 cvaA1⟩ | with_reducible exact ⟨cellS Xx0_15 cvx00, cellS Xx0_15 cvx01, cellS XaA_15 cvaA0, cellS XaA_15 cvaA1⟩ | with_reducible exact ⟨cellS Xx0_14 cvx00, cellS Xx0_14 cvx01, cellS XaA_14 cvaA0, cellS XaA_14 cvaA1⟩) (first | (go_at_call 31; refine (eqStructure_same Ax0 At3 len0 cx0 ct3 z0 Bx0 Bt3 m0 dx0 dt3 y0 _ (tin Rx0_15 Ftz0 (by omega) (by omega)) (tin Rt3_15 Ftz0 (by omega) (by omega))).mono ?_; rintro e w8 ⟨rfl, hb⟩; have BW16 := Lib.hid (BW15.out.trans (hb.mono BW15.out.size)); have sz16 : Hid (w7.heap.size ≤ w8.heap.size) := hb.size; have Rx0_16 := Lib.hid (Rx0_15.out.below hb); have Rx1_16 := Lib.hid (Rx1_15.out.below hb); have Rt3_16 := Lib.hid (Rt3_15.out.below hb); have XaA_16 := Lib.hid (XaA_15.out.below hb XaA_15.out.lt); have XaB_16 := Lib.hid (XaB_15.out.below hb XaB_15.out.lt); have Xx0_16 := Lib.hid (Xx0_15.out.below hb Xx0_15.out.lt); have Xx1_16 := Lib.hid (Xx1_15.out.below hb Xx1_15.out.lt); clear hb) | (go_at_call 29; refine (toStructure_any a0 len0 cap0 z0 b0 m0 d0 y0 _ (Inz0.out.below BW14.out)).mono ?_; rintro e w7 ⟨At3, ct3, Bt3, dt3, rfl, ho, hb⟩; have BW15 := Lib.hid (BW14.out.trans (hb.mono BW14.out.size)); have sz15 : Hid (w6.drew.heap.size ≤ w7.heap.size) := hb.size; have Rx0_15 := Lib.hid (Rx0_14.out.below hb); have Rx1_15 := Lib.hid (Rx1_14.out.below hb); have XaA_15 := Lib.hid (XaA_14.out.below hb XaA_14.out.lt); have XaB_15 := Lib.hid (XaB_14.out.below hb XaB_14.out.lt); have Xx0_15 := Lib.hid (Xx0_14.out.below hb Xx0_14.out.lt); have Xx1_15 := Lib.hid (Xx1_14.out.below hb Xx1_14.out.lt); have Ut3 := Lib.hid ho.lt; have Rt3_15 := Lib.hid ho.holds; clear ho hb))
  clear cvx00 cvx01 cvaA0 cvaA1
  clear Rx0_16 Ux0 Xx0_16
  clear Rt3_16 Ut3
  go_wp2_with fail
  have BW17 := Lib.hid BW16.out.drew
  have sz17 : Hid (w8.heap.size ≤ w8.drew.heap.size) := Nat.le_refl _
  have Rx1_17 := Lib.hid Rx1_16.out.drew
  have XaA_17 := Lib.hid XaA_16.out.drew
  have XaB_17 := Lib.hid XaB_16.out.drew
  have Xx1_17 := Lib.hid Xx1_16.out.drew
  have cvx10 : Hid ((#[.slice Ax1 len1 cx1, .slice Bx1 m1 dx1] : Array Value)[0]? = some (.slice Ax1 len1 cx1)) := rfl
  have cvx11 : Hid ((#[.slice Ax1 len1 cx1, .slice Bx1 m1 dx1] : Array Value)[1]? = some (.slice Bx1 m1 dx1)) := rfl
  have cvaB0 : Hid ((#[.slice a1 len1 cap1, .slice b1 m1 d1] : Array Value)[0]? = some (.slice a1 len1 cap1)) := rfl
  have cvaB1 : Hid ((#[.slice a1 len1 cap1, .slice b1 m1 d1] : Array Value)[1]? = some (.slice b1 m1 d1)) := rfl
  go_region_held3 (fun w' => w'.cell? ⟨w5.heap.size, 0, none⟩ = some (.slice Ax1 len1 cx1) ∧ w'.cell? ⟨w5.heap.size, 1, none⟩ = some (.slice Bx1 m1 dx1) ∧ w'.cell? ⟨w.heap.size + 1, 0, none⟩ = some (.slice a1 len1 cap1) ∧ w'.cell? ⟨w.heap.size + 1, 1, none⟩ = some (.slice b1 m1 d1)) (first | with_reducible exact ⟨cellS Xx1_19 cvx10, cellS Xx1_19 cvx11, cellS XaB_19 cvaB0, cellS XaB_19 cvaB1⟩ | with_reducible exact ⟨cellS Xx1_18 cvx10, cellS Xx1_18 cvx11, cellS XaB_18 cvaB0, cellS XaB_18 cvaB1⟩ | with_reducible exact ⟨cellS Xx1_17 cvx10, cellS Xx1_17 cvx11, cellS XaB_17 cvaB0, cellS XaB_17 cvaB1⟩) (first | (go_at_call 31; refine (eqStructure_same Ax1 At4 len1 cx1 ct4 z1 Bx1 Bt4 m1 dx1 dt4 y1 _ (tin Rx1_18 Ftz1 (by omega) (by omega)) (tin Rt4_18 Ftz1 (by omega) (by omega))).mono ?_; rintro e w10 ⟨rfl, hb⟩; have BW19 := Lib.hid (BW18.out.trans (hb.mono BW18.out.size)); have sz19 : Hid (w9.heap.size ≤ w10.heap.size) := hb.size; have Rx1_19 := Lib.hid (Rx1_18.out.below hb); have Rt4_19 := Lib.hid (Rt4_18.out.below hb); have XaA_19 := Lib.hid (XaA_18.out.below hb XaA_18.out.lt); have XaB_19 := Lib.hid (XaB_18.out.below hb XaB_18.out.lt); have Xx1_19 := Lib.hid (Xx1_18.out.below hb Xx1_18.out.lt); clear hb) | (go_at_call 29; refine (toStructure_any a1 len1 cap1 z1 b1 m1 d1 y1 _ (Inz1.out.below BW17.out)).mono ?_; rintro e w9 ⟨At4, ct4, Bt4, dt4, rfl, ho, hb⟩; have BW18 := Lib.hid (BW17.out.trans (hb.mono BW17.out.size)); have sz18 : Hid (w8.drew.heap.size ≤ w9.heap.size) := hb.size; have Rx1_18 := Lib.hid (Rx1_17.out.below hb); have XaA_18 := Lib.hid (XaA_17.out.below hb XaA_17.out.lt); have XaB_18 := Lib.hid (XaB_17.out.below hb XaB_17.out.lt); have Xx1_18 := Lib.hid (Xx1_17.out.below hb Xx1_17.out.lt); have Ut4 := Lib.hid ho.lt; have Rt4_18 := Lib.hid ho.holds; clear ho hb))
  clear cvx10 cvx11 cvaB0 cvaB1
  clear Rx1_19 Ux1 Xx1_19
  clear Rt4_19 Ut4
  go_wp2_with fail
  go_ret
  exact ⟨rfl, BW19.out⟩
end Go.Proofs.Ytcmbfgaojlnjcaa.fnExactSameStructures
