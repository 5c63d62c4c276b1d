/- The walk of the law: for all arguments the law FnExactIsDual returns true: the program's IsDual answers as the model's; no condition on them. -/
import Derived.Test.YtjohglkfcefimaaGreatGV
import Derived.Test.YtjohglkfcefimaaGreatLpM
import Derived.Test.YtjohglkfcefimaaGreatLpI6
import Derived.ProofKit
import Derived.OpenShut
import Derived.ShutString
import Derived.Lib.SmallJoins
namespace Go.Proofs.YtjohglkfcefimaaGreat.fnExactIsDual
set_option maxRecDepth 100000
open Go.ChangeShapes Go.WideShapes Go.ChangeAt Go.RowKit Go.Joins Go.Deep
open Go.ChangeMaps (open_string shut_string)

set_option maxRecDepth 100000 in
set_option maxHeartbeats 16000000 in
theorem walk {w : World} (p0 : Int) (hp0 : (Lit.int .i64 p0).wf = true) (q0 : Int) (hq0 : (Lit.int .i64 q0).wf = true) (a0 : Option Addr) (len0 cap0 : Nat) (z0 : List Int) (hz0 : IsInts w a0 len0 z0) (b0 : Option Addr) (m0 d0 : Nat) (y0 : List Int) (hy0 : IsInts w b0 m0 y0) (ee0 : Option Addr) (ll0 ff0 : Nat) (yy0 : List Int) (hyy0 : IsInts w ee0 ll0 yy0) (a1 : Option Addr) (len1 cap1 : Nat) (z1 : List RD) (hz1 : IsV w a1 len1 z1) :
    Calls Tryz.prog 5 #[.agg #[.int .i64 p0, .int .i64 q0, .slice a0 len0 cap0, .slice b0 m0 d0, .slice ee0 ll0 ff0], .slice a1 len1 cap1] w fun e w' => e = .returned (.bool true) ∧ Below w.heap.size w w' := by
  have Bp0 := bounds_i64 hp0
  clear hp0
  have Bq0 := bounds_i64 hq0
  clear hq0
  have hmz0 : len0 ≤ maxLen := hz0.2.1
  have Hz0 := Lib.hid hz0
  clear hz0
  have hmy0 : m0 ≤ maxLen := hy0.2.1
  have Hy0 := Lib.hid hy0
  clear hy0
  have hmyy0 : ll0 ≤ maxLen := hyy0.2.1
  have Hyy0 := Lib.hid hyy0
  clear hyy0
  have hmz1 : len1 ≤ maxLen := hz1.2.1
  have Hz1 := Lib.hid hz1
  clear hz1
  have BW0 : Hid (Below w.heap.size w w) := Below.refl _ _
  have BW1 := Lib.hid (BW0.out.alloc BW0.out.size (.cells #[.int .i64 p0, .int .i64 q0, .slice a0 len0 cap0, .slice b0 m0 d0, .slice ee0 ll0 ff0] 24))
  have sz1 : Hid (w.heap.size + 1 ≤ (w.alloc (.cells #[.int .i64 p0, .int .i64 q0, .slice a0 len0 cap0, .slice b0 m0 d0, .slice ee0 ll0 ff0] 24)).heap.size) := Lib.hid (by simp)
  have XaP_1 := Lib.hid (Box.new w 24 #[.int .i64 p0, .int .i64 q0, .slice a0 len0 cap0, .slice b0 m0 d0, .slice ee0 ll0 ff0])
  go_enter Tryz.func5, Tryz.ntmps5
  have eaP0a : (w.alloc (.cells #[.int .i64 p0, .int .i64 q0, .slice a0 len0 cap0, .slice b0 m0 d0, .slice ee0 ll0 ff0] 24)).cell? ⟨w.heap.size, 0, none⟩ = some (.int .i64 p0) := XaP_1.out.cell 0
  have eaP1a : (w.alloc (.cells #[.int .i64 p0, .int .i64 q0, .slice a0 len0 cap0, .slice b0 m0 d0, .slice ee0 ll0 ff0] 24)).cell? ⟨w.heap.size, 1, none⟩ = some (.int .i64 q0) := XaP_1.out.cell 1
  have eaP2a : (w.alloc (.cells #[.int .i64 p0, .int .i64 q0, .slice a0 len0 cap0, .slice b0 m0 d0, .slice ee0 ll0 ff0] 24)).cell? ⟨w.heap.size, 2, none⟩ = some (.slice a0 len0 cap0) := XaP_1.out.cell 2
  have eaP3a : (w.alloc (.cells #[.int .i64 p0, .int .i64 q0, .slice a0 len0 cap0, .slice b0 m0 d0, .slice ee0 ll0 ff0] 24)).cell? ⟨w.heap.size, 3, none⟩ = some (.slice b0 m0 d0) := XaP_1.out.cell 3
  have eaP4a : (w.alloc (.cells #[.int .i64 p0, .int .i64 q0, .slice a0 len0 cap0, .slice b0 m0 d0, .slice ee0 ll0 ff0] 24)).cell? ⟨w.heap.size, 4, none⟩ = some (.slice ee0 ll0 ff0) := XaP_1.out.cell 4
  go_wp2_with fail
  clear eaP0a eaP1a eaP2a eaP3a eaP4a
  refine (szProgram_any p0 q0 a0 len0 cap0 b0 m0 d0 ee0 ll0 ff0 (1048576 : Int) _ hmz0 hmy0 hmyy0 (by omega) (by omega)).mono ?_
  rintro e ws0 ⟨lf0, rfl, hr, hb⟩
  have BW2 := Lib.hid (BW1.out.trans (hb.mono BW1.out.size))
  have sz2 : Hid ((w.alloc (.cells #[.int .i64 p0, .int .i64 q0, .slice a0 len0 cap0, .slice b0 m0 d0, .slice ee0 ll0 ff0] 24)).heap.size ≤ ws0.heap.size) := hb.size
  have XaP_2 := Lib.hid (XaP_1.out.below hb XaP_1.out.lt)
  clear hb
  rcases hr with rfl | ⟨h0, hr⟩
  · go_wp2_with fail
    go_ret
    exact ⟨rfl, BW2.out⟩
  have lb0 : 0 ≤ lf0 ∧ lf0 ≤ 1048576 := by omega
  have ls0 : lf0 + ((len0 : Int) + m0 + ll0) = (1048576 : Int) := by omega
  have HLS0 := Lib.hid ls0
  have lt0 : len0 + m0 + ll0 ≤ 1048576 := by omega
  clear ls0 hr
  have h00 := h0
  clear h0
  have Inz0 : Hid (InP w a0 len0 z0 b0 m0 y0 ee0 ll0 yy0) := ⟨Hz0.out.inI (by omega), Hy0.out.inI (by omega), Hyy0.out.inI (by omega)⟩
  go_wp2_with fail
  refine (szRatS_any a1 len1 cap1 z1 lf0 _ (Hz1.out.below BW2.out) (by omega) (by omega)).mono ?_
  rintro e ws1 ⟨lf1, rfl, hr, hb⟩
  have BW3 := Lib.hid (BW2.out.trans (hb.mono BW2.out.size))
  have sz3 : Hid (ws0.heap.size ≤ ws1.heap.size) := hb.size
  have XaP_3 := Lib.hid (XaP_2.out.below hb XaP_2.out.lt)
  clear hb
  rcases hr with rfl | ⟨h0, hr⟩
  · go_wp2_with fail
    go_ret
    exact ⟨rfl, BW3.out⟩
  have lb1 : 0 ≤ lf1 ∧ lf1 ≤ 1048576 := by omega
  have ls1 : lf1 + ((len1 : Int) + tot z1) = lf0 := by omega
  have HLS1 := Lib.hid ls1
  have lt1 : len1 + tot z1 ≤ 1048576 := by omega
  clear ls1 hr
  have h01 := h0
  clear h0
  have Ftz1 := Lib.hid (Hz1.out.fits (by omega))
  have eaP0a : ws1.cell? ⟨w.heap.size, 0, none⟩ = some (.int .i64 p0) := XaP_3.out.cell 0
  have eaP1a : ws1.cell? ⟨w.heap.size, 1, none⟩ = some (.int .i64 q0) := XaP_3.out.cell 1
  have eaP2a : ws1.cell? ⟨w.heap.size, 2, none⟩ = some (.slice a0 len0 cap0) := XaP_3.out.cell 2
  have eaP3a : ws1.cell? ⟨w.heap.size, 3, none⟩ = some (.slice b0 m0 d0) := XaP_3.out.cell 3
  have eaP4a : ws1.cell? ⟨w.heap.size, 4, none⟩ = some (.slice ee0 ll0 ff0) := XaP_3.out.cell 4
  go_wp2_with fail
  clear eaP0a eaP1a eaP2a eaP3a eaP4a
  refine (toProgram_any p0 q0 a0 len0 cap0 z0 b0 m0 d0 y0 ee0 ll0 ff0 yy0 _ (Inz0.out.below BW3.out)).mono ?_
  rintro e w1 ⟨At1, ct1, Bt1, dt1, Ct1, ft1, rfl, ho, hb⟩
  have BW4 := Lib.hid (BW3.out.trans (hb.mono BW3.out.size))
  have sz4 : Hid (ws1.heap.size ≤ w1.heap.size) := hb.size
  have XaP_4 := Lib.hid (XaP_3.out.below hb XaP_3.out.lt)
  have Ut1 := Lib.hid ho.lt
  have Rt1_4 := Lib.hid ho.holds
  have hcapt1 : len0 ≤ ct1 := own_le ho.1
  clear ho hb
  go_wp2_with fail
  refine (toRatS_any a1 len1 cap1 z1 _ (Hz1.out.below BW4.out) (by omega)).mono ?_
  rintro e w2 ⟨V, Lt2, rfl, ho, hh, hb⟩
  have BW5 := Lib.hid (BW4.out.trans (hb.mono BW4.out.size))
  have sz5 : Hid (w1.heap.size ≤ w2.heap.size) := hb.size
  have Rt1_5 := Lib.hid (Rt1_4.out.below hb)
  have XaP_5 := Lib.hid (XaP_4.out.below hb XaP_4.out.lt)
  obtain ⟨At2, ct2, rfl⟩ := ho.slice
  have Ut2 := Lib.hid ho.lt
  have Rt2_5 := Lib.hid ho.holds
  have HHt2 := Lib.hid hh
  obtain ⟨mt2, hmt2⟩ : ∃ m, m = mtot Lt2 := ⟨_, rfl⟩
  have Mt2 : Hid (mt2 = len1 + tot z1) := Lib.hid (by have := mtot_has hh; have := Hz1.out.1; omega)
  have Qt2 : Hid (mtot Lt2 = mt2) := hmt2.symm
  clear hmt2
  clear ho hh hb
  go_wp2_with fail
  refine (spec_isDual p0 q0 At1 len0 ct1 z0 Bt1 m0 dt1 y0 Ct1 ll0 ft1 yy0 At2 len1 ct2 z1 _ (pin Rt1_5 Inz0) Bp0 Bq0 hcapt1 (vin Rt2_5 HHt2 (by omega) Ftz1)).mono ?_
  rintro e w3 ⟨r1_0, rfl, his, hb⟩
  have BW6 := Lib.hid (BW5.out.trans (hb.mono BW5.out.size))
  have sz6 : Hid (w2.heap.size ≤ w3.heap.size) := hb.size
  have Rt1_6 := Lib.hid (Rt1_5.out.below hb)
  have Rt2_6 := Lib.hid (Rt2_5.out.below hb)
  have XaP_6 := Lib.hid (XaP_5.out.below hb XaP_5.out.lt)
  have IS := Lib.hid his
  clear his
  clear hb
  clear Rt1_6 Ut1
  clear Rt2_6 Ut2
  have eaP0a : w3.cell? ⟨w.heap.size, 0, none⟩ = some (.int .i64 p0) := XaP_6.out.cell 0
  have eaP1a : w3.cell? ⟨w.heap.size, 1, none⟩ = some (.int .i64 q0) := XaP_6.out.cell 1
  have eaP2a : w3.cell? ⟨w.heap.size, 2, none⟩ = some (.slice a0 len0 cap0) := XaP_6.out.cell 2
  have eaP3a : w3.cell? ⟨w.heap.size, 3, none⟩ = some (.slice b0 m0 d0) := XaP_6.out.cell 3
  have eaP4a : w3.cell? ⟨w.heap.size, 4, none⟩ = some (.slice ee0 ll0 ff0) := XaP_6.out.cell 4
  go_wp2_with fail
  clear eaP0a eaP1a eaP2a eaP3a eaP4a
  refine (toProgram_any p0 q0 a0 len0 cap0 z0 b0 m0 d0 y0 ee0 ll0 ff0 yy0 _ (Inz0.out.below BW6.out)).mono ?_
  rintro e w4 ⟨Ax0, cx0, Bx0, dx0, Cx0, fx0, rfl, ho, hb⟩
  have BW7 := Lib.hid (BW6.out.trans (hb.mono BW6.out.size))
  have sz7 : Hid (w3.heap.size ≤ w4.heap.size) := hb.size
  have XaP_7 := Lib.hid (XaP_6.out.below hb XaP_6.out.lt)
  have Ux0 := Lib.hid ho.lt
  have Rx0_7 := Lib.hid ho.holds
  have hcapx0 : len0 ≤ cx0 := own_le ho.1
  clear ho hb
  have BW8 := Lib.hid (BW7.out.alloc BW7.out.size (.cells #[.int .i64 p0, .int .i64 q0, .slice Ax0 len0 cx0, .slice Bx0 m0 dx0, .slice Cx0 ll0 fx0] 29))
  have sz8 : Hid (w4.heap.size + 1 ≤ (w4.alloc (.cells #[.int .i64 p0, .int .i64 q0, .slice Ax0 len0 cx0, .slice Bx0 m0 dx0, .slice Cx0 ll0 fx0] 29)).heap.size) := Lib.hid (by simp)
  have Rx0_8 := Lib.hid (Rx0_7.out.alloc (.cells #[.int .i64 p0, .int .i64 q0, .slice Ax0 len0 cx0, .slice Bx0 m0 dx0, .slice Cx0 ll0 fx0] 29))
  have XaP_8 := Lib.hid (XaP_7.out.alloc (.cells #[.int .i64 p0, .int .i64 q0, .slice Ax0 len0 cx0, .slice Bx0 m0 dx0, .slice Cx0 ll0 fx0] 29))
  have Xx0_8 := Lib.hid (Box.new w4 29 #[.int .i64 p0, .int .i64 q0, .slice Ax0 len0 cx0, .slice Bx0 m0 dx0, .slice Cx0 ll0 fx0])
  go_wp2_with fail
  refine (toRatS_any a1 len1 cap1 z1 _ (Hz1.out.below BW8.out) (by omega)).mono ?_
  rintro e w5 ⟨V, Lx1, rfl, ho, hh, hb⟩
  have BW9 := Lib.hid (BW8.out.trans (hb.mono BW8.out.size))
  have sz9 : Hid ((w4.alloc (.cells #[.int .i64 p0, .int .i64 q0, .slice Ax0 len0 cx0, .slice Bx0 m0 dx0, .slice Cx0 ll0 fx0] 29)).heap.size ≤ w5.heap.size) := hb.size
  have Rx0_9 := Lib.hid (Rx0_8.out.below hb)
  have XaP_9 := Lib.hid (XaP_8.out.below hb XaP_8.out.lt)
  have Xx0_9 := Lib.hid (Xx0_8.out.below hb Xx0_8.out.lt)
  obtain ⟨Ax1, cx1, rfl⟩ := ho.slice
  have Ux1 := Lib.hid ho.lt
  have Rx1_9 := Lib.hid ho.holds
  have HHx1 := Lib.hid hh
  obtain ⟨mx1, hmx1⟩ : ∃ m, m = mtot Lx1 := ⟨_, rfl⟩
  have Mx1 : Hid (mx1 = len1 + tot z1) := Lib.hid (by have := mtot_has hh; have := Hz1.out.1; omega)
  have Qx1 : Hid (mtot Lx1 = mx1) := hmx1.symm
  clear hmx1
  clear ho hh hb
  have ex00a : w5.cell? ⟨w4.heap.size, 0, none⟩ = some (.int .i64 p0) := Xx0_9.out.cell 0
  have ex01a : w5.cell? ⟨w4.heap.size, 1, none⟩ = some (.int .i64 q0) := Xx0_9.out.cell 1
  have ex02a : w5.cell? ⟨w4.heap.size, 2, none⟩ = some (.slice Ax0 len0 cx0) := Xx0_9.out.cell 2
  have ex03a : w5.cell? ⟨w4.heap.size, 3, none⟩ = some (.slice Bx0 m0 dx0) := Xx0_9.out.cell 3
  have ex04a : w5.cell? ⟨w4.heap.size, 4, none⟩ = some (.slice Cx0 ll0 fx0) := Xx0_9.out.cell 4
  go_wp2_with fail
  clear ex00a ex01a ex02a ex03a ex04a
  refine (impl_isDual p0 q0 Ax0 len0 cx0 z0 Bx0 m0 dx0 y0 Cx0 ll0 fx0 yy0 Ax1 len1 cx1 z1 _ (pin Rx0_9 Inz0) Bp0 Bq0 hcapx0 (vin Rx1_9 HHx1 (by omega) Ftz1)).mono ?_
  rintro e w6 ⟨r2_0, rfl, his, hb⟩
  have BW10 := Lib.hid (BW9.out.trans (hb.mono BW9.out.size))
  have sz10 : Hid (w5.heap.size ≤ w6.heap.size) := hb.size
  have Rx0_10 := Lib.hid (Rx0_9.out.below hb)
  have Rx1_10 := Lib.hid (Rx1_9.out.below hb)
  have XaP_10 := Lib.hid (XaP_9.out.below hb XaP_9.out.lt)
  have Xx0_10 := Lib.hid (Xx0_9.out.below hb Xx0_9.out.lt)
  obtain rfl := isDual_unique IS.out his
  clear his
  clear hb
  go_wp2_with fail
  have BW11 := Lib.hid BW10.out.drew
  have sz11 : Hid (w6.heap.size ≤ w6.drew.heap.size) := Nat.le_refl _
  have Rx0_11 := Lib.hid Rx0_10.out.drew
  have Rx1_11 := Lib.hid Rx1_10.out.drew
  have XaP_11 := Lib.hid XaP_10.out.drew
  have Xx0_11 := Lib.hid Xx0_10.out.drew
  have cvx00 : Hid ((#[.int .i64 p0, .int .i64 q0, .slice Ax0 len0 cx0, .slice Bx0 m0 dx0, .slice Cx0 ll0 fx0] : Array Value)[0]? = some (.int .i64 p0)) := rfl
  have cvx01 : Hid ((#[.int .i64 p0, .int .i64 q0, .slice Ax0 len0 cx0, .slice Bx0 m0 dx0, .slice Cx0 ll0 fx0] : Array Value)[1]? = some (.int .i64 q0)) := rfl
  have cvx02 : Hid ((#[.int .i64 p0, .int .i64 q0, .slice Ax0 len0 cx0, .slice Bx0 m0 dx0, .slice Cx0 ll0 fx0] : Array Value)[2]? = some (.slice Ax0 len0 cx0)) := rfl
  have cvx03 : Hid ((#[.int .i64 p0, .int .i64 q0, .slice Ax0 len0 cx0, .slice Bx0 m0 dx0, .slice Cx0 ll0 fx0] : Array Value)[3]? = some (.slice Bx0 m0 dx0)) := rfl
  have cvx04 : Hid ((#[.int .i64 p0, .int .i64 q0, .slice Ax0 len0 cx0, .slice Bx0 m0 dx0, .slice Cx0 ll0 fx0] : Array Value)[4]? = some (.slice Cx0 ll0 fx0)) := rfl
  have cvaP0 : Hid ((#[.int .i64 p0, .int .i64 q0, .slice a0 len0 cap0, .slice b0 m0 d0, .slice ee0 ll0 ff0] : Array Value)[0]? = some (.int .i64 p0)) := rfl
  have cvaP1 : Hid ((#[.int .i64 p0, .int .i64 q0, .slice a0 len0 cap0, .slice b0 m0 d0, .slice ee0 ll0 ff0] : Array Value)[1]? = some (.int .i64 q0)) := rfl
  have cvaP2 : Hid ((#[.int .i64 p0, .int .i64 q0, .slice a0 len0 cap0, .slice b0 m0 d0, .slice ee0 ll0 ff0] : Array Value)[2]? = some (.slice a0 len0 cap0)) := rfl
  have cvaP3 : Hid ((#[.int .i64 p0, .int .i64 q0, .slice a0 len0 cap0, .slice b0 m0 d0, .slice ee0 ll0 ff0] : Array Value)[3]? = some (.slice b0 m0 d0)) := rfl
  have cvaP4 : Hid ((#[.int .i64 p0, .int .i64 q0, .slice a0 len0 cap0, .slice b0 m0 d0, .slice ee0 ll0 ff0] : Array Value)[4]? = some (.slice ee0 ll0 ff0)) := rfl
  go_region_held3 (fun w' => w'.cell? ⟨w4.heap.size, 0, none⟩ = some (.int .i64 p0) ∧ w'.cell? ⟨w4.heap.size, 1, none⟩ = some (.int .i64 q0) ∧ w'.cell? ⟨w4.heap.size, 2, none⟩ = some (.slice Ax0 len0 cx0) ∧ w'.cell? ⟨w4.heap.size, 3, none⟩ = some (.slice Bx0 m0 dx0) ∧ w'.cell? ⟨w4.heap.size, 4, none⟩ = some (.slice Cx0 ll0 fx0) ∧ w'.cell? ⟨w.heap.size, 0, none⟩ = some (.int .i64 p0) ∧ w'.cell? ⟨w.heap.size, 1, none⟩ = some (.int .i64 q0) ∧ w'.cell? ⟨w.heap.size, 2, none⟩ = some (.slice a0 len0 cap0) ∧ w'.cell? ⟨w.heap.size, 3, none⟩ = some (.slice b0 m0 d0) ∧ w'.cell? ⟨w.heap.size, 4, none⟩ = some (.slice ee0 ll0 ff0)) (first | with_reducible exact ⟨cellS Xx0_13 cvx00, cellS Xx0_13 cvx01, cellS Xx0_13 cvx02, cellS Xx0_13 cvx03, cellS Xx0_13 cvx04, cellS XaP_13 cvaP0, cellS XaP_13 cvaP1, cellS XaP_13 cvaP2, cellS XaP_13 cvaP3, cellS XaP_13 cvaP4⟩ | with_reducible exact ⟨cellS Xx0_12 cvx00, cellS Xx0_12 cvx01, cellS Xx0_12 cvx02, cellS Xx0_12 cvx03, cellS Xx0_12 cvx04, cellS XaP_12 cvaP0, cellS XaP_12 cvaP1, cellS XaP_12 cvaP2, cellS XaP_12 cvaP3, cellS XaP_12 cvaP4⟩ | with_reducible exact ⟨cellS Xx0_11 cvx00, cellS Xx0_11 cvx01, cellS Xx0_11 cvx02, cellS Xx0_11 cvx03, cellS Xx0_11 cvx04, cellS XaP_11 cvaP0, cellS XaP_11 cvaP1, cellS XaP_11 cvaP2, cellS XaP_11 cvaP3, cellS XaP_11 cvaP4⟩) (first | (go_at_call 19; refine (eqProgram_same p0 q0 Ax0 At3 len0 cx0 ct3 z0 Bx0 Bt3 m0 dx0 dt3 y0 Cx0 Ct3 ll0 fx0 ft3 yy0 _ (pin Rx0_12 Inz0) (pin Rt3_12 Inz0)).mono ?_; rintro e w8 ⟨rfl, hb⟩; have BW13 := Lib.hid (BW12.out.trans (hb.mono BW12.out.size)); have sz13 : Hid (w7.heap.size ≤ w8.heap.size) := hb.size; have Rx0_13 := Lib.hid (Rx0_12.out.below hb); have Rx1_13 := Lib.hid (Rx1_12.out.below hb); have Rt3_13 := Lib.hid (Rt3_12.out.below hb); have XaP_13 := Lib.hid (XaP_12.out.below hb XaP_12.out.lt); have Xx0_13 := Lib.hid (Xx0_12.out.below hb Xx0_12.out.lt); clear hb) | (go_at_call 16; refine (toProgram_any p0 q0 a0 len0 cap0 z0 b0 m0 d0 y0 ee0 ll0 ff0 yy0 _ (Inz0.out.below BW11.out)).mono ?_; rintro e w7 ⟨At3, ct3, Bt3, dt3, Ct3, ft3, rfl, ho, hb⟩; have BW12 := Lib.hid (BW11.out.trans (hb.mono BW11.out.size)); have sz12 : Hid (w6.drew.heap.size ≤ w7.heap.size) := hb.size; have Rx0_12 := Lib.hid (Rx0_11.out.below hb); have Rx1_12 := Lib.hid (Rx1_11.out.below hb); have XaP_12 := Lib.hid (XaP_11.out.below hb XaP_11.out.lt); have Xx0_12 := Lib.hid (Xx0_11.out.below hb Xx0_11.out.lt); have Ut3 := Lib.hid ho.lt; have Rt3_12 := Lib.hid ho.holds; have hcapt3 : len0 ≤ ct3 := own_le ho.1; clear ho hb))
  clear cvx00 cvx01 cvx02 cvx03 cvx04 cvaP0 cvaP1 cvaP2 cvaP3 cvaP4
  clear Rx0_13 Ux0 Xx0_13
  clear Rt3_13 Ut3
  go_wp2_with fail
  refine (toRatS_any a1 len1 cap1 z1 _ (Hz1.out.below BW13.out) (by omega)).mono ?_
  rintro e w9 ⟨V, Lt4, rfl, ho, hh, hb⟩
  have BW14 := Lib.hid (BW13.out.trans (hb.mono BW13.out.size))
  have sz14 : Hid (w8.heap.size ≤ w9.heap.size) := hb.size
  have Rx1_14 := Lib.hid (Rx1_13.out.below hb)
  have XaP_14 := Lib.hid (XaP_13.out.below hb XaP_13.out.lt)
  obtain ⟨At4, ct4, rfl⟩ := ho.slice
  have Ut4 := Lib.hid ho.lt
  have Rt4_14 := Lib.hid ho.holds
  have HHt4 := Lib.hid hh
  obtain ⟨mt4, hmt4⟩ : ∃ m, m = mtot Lt4 := ⟨_, rfl⟩
  have Mt4 : Hid (mt4 = len1 + tot z1) := Lib.hid (by have := mtot_has hh; have := Hz1.out.1; omega)
  have Qt4 : Hid (mtot Lt4 = mt4) := hmt4.symm
  clear hmt4
  clear ho hh hb
  go_wp2_with fail
  refine (eqRatS_same Ax1 At4 len1 cx1 ct4 z1 _ (vin Rx1_14 HHx1 (by omega) Ftz1) (vin Rt4_14 HHt4 (by omega) Ftz1)).mono ?_
  rintro e w10 ⟨rfl, hb⟩
  have BW15 := Lib.hid (BW14.out.trans (hb.mono BW14.out.size))
  have sz15 : Hid (w9.heap.size ≤ w10.heap.size) := hb.size
  have Rx1_15 := Lib.hid (Rx1_14.out.below hb)
  have Rt4_15 := Lib.hid (Rt4_14.out.below hb)
  have XaP_15 := Lib.hid (XaP_14.out.below hb XaP_14.out.lt)
  clear hb
  clear Rx1_15 Ux1
  clear Rt4_15 Ut4
  go_wp2_with fail
  go_ret
  exact ⟨rfl, BW15.out⟩
end Go.Proofs.YtjohglkfcefimaaGreat.fnExactIsDual
