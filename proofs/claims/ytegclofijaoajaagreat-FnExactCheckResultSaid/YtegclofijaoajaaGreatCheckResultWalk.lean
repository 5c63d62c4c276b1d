/- The walk of the law: for all arguments the law FnExactCheckResult returns true: the program's CheckResult answers as the model's; no condition on them. -/
import Derived.Test.YtegclofijaoajaaGreatGV
import Derived.Test.YtegclofijaoajaaGreatLpM
import Derived.Test.YtegclofijaoajaaGreatLrM
import Derived.Test.YtegclofijaoajaaGreatChk
import Derived.ProofKit
import Derived.OpenShut
import Derived.ShutString
import Derived.Lib.SmallJoins
namespace Go.Proofs.YtegclofijaoajaaGreat.fnExactCheckResult
set_option maxRecDepth 100000
open Go.ChangeShapes Go.WideShapes Go.ChangeAt Go.RowKit Go.Joins Go.Deep
open Go.ChangeMaps (open_string shut_string)

set_option maxRecDepth 100000 in
set_option maxHeartbeats 16000000 in
theorem walk {w : World} (p0 : Int) (hp0 : (Lit.int .i64 p0).wf = true) (q0 : Int) (hq0 : (Lit.int .i64 q0).wf = true) (a0 : Option Addr) (len0 cap0 : Nat) (z0 : List Int) (hz0 : IsInts w a0 len0 z0) (b0 : Option Addr) (m0 d0 : Nat) (y0 : List Int) (hy0 : IsInts w b0 m0 y0) (ee0 : Option Addr) (ll0 ff0 : Nat) (yy0 : List Int) (hyy0 : IsInts w ee0 ll0 yy0) (p1 : Int) (hp1 : (Lit.int .i64 p1).wf = true) (a1 : Option Addr) (len1 cap1 : Nat) (z1 : List RD) (hz1 : IsV w a1 len1 z1) (g1 : Bool) (b1 : Option Addr) (m1 d1 : Nat) (y1 : List Int) (hy1 : IsInts w b1 m1 y1) (ee1 : Option Addr) (ll1 ff1 : Nat) (yy1 : List Int) (hyy1 : IsInts w ee1 ll1 yy1) (a2 : Option Addr) (len2 cap2 : Nat) (z2 : List RD) (hz2 : IsV w a2 len2 z2) :
    Calls Tryz.prog 12 #[.agg #[.int .i64 p0, .int .i64 q0, .slice a0 len0 cap0, .slice b0 m0 d0, .slice ee0 ll0 ff0], .agg #[.int .i64 p1, .slice a1 len1 cap1, .bool g1, .slice b1 m1 d1, .slice ee1 ll1 ff1], .slice a2 len2 cap2] w fun e w' => e = .returned (.bool true) ∧ Below w.heap.size w w' := by
  have Bp0 := bounds_i64 hp0
  clear hp0
  have Bq0 := bounds_i64 hq0
  clear hq0
  have hmz0 : len0 ≤ maxLen := hz0.2.1
  have Hz0 := Lib.hid hz0
  clear hz0
  have hmy0 : m0 ≤ maxLen := hy0.2.1
  have Hy0 := Lib.hid hy0
  clear hy0
  have hmyy0 : ll0 ≤ maxLen := hyy0.2.1
  have Hyy0 := Lib.hid hyy0
  clear hyy0
  have Bp1 := bounds_i64 hp1
  clear hp1
  have hmz1 : len1 ≤ maxLen := hz1.2.1
  have Hz1 := Lib.hid hz1
  clear hz1
  have hmy1 : m1 ≤ maxLen := hy1.2.1
  have Hy1 := Lib.hid hy1
  clear hy1
  have hmyy1 : ll1 ≤ maxLen := hyy1.2.1
  have Hyy1 := Lib.hid hyy1
  clear hyy1
  have hmz2 : len2 ≤ maxLen := hz2.2.1
  have Hz2 := Lib.hid hz2
  clear hz2
  have BW0 : Hid (Below w.heap.size w w) := Below.refl _ _
  have BW1 := Lib.hid (BW0.out.alloc BW0.out.size (.cells #[.int .i64 p0, .int .i64 q0, .slice a0 len0 cap0, .slice b0 m0 d0, .slice ee0 ll0 ff0] 70))
  have sz1 : Hid (w.heap.size + 1 ≤ (w.alloc (.cells #[.int .i64 p0, .int .i64 q0, .slice a0 len0 cap0, .slice b0 m0 d0, .slice ee0 ll0 ff0] 70)).heap.size) := Lib.hid (by simp)
  have XaP_1 := Lib.hid (Box.new w 70 #[.int .i64 p0, .int .i64 q0, .slice a0 len0 cap0, .slice b0 m0 d0, .slice ee0 ll0 ff0])
  have BW2 := Lib.hid (BW1.out.alloc BW1.out.size (.cells #[.int .i64 p1, .slice a1 len1 cap1, .bool g1, .slice b1 m1 d1, .slice ee1 ll1 ff1] 84))
  have sz2 : Hid ((w.alloc (.cells #[.int .i64 p0, .int .i64 q0, .slice a0 len0 cap0, .slice b0 m0 d0, .slice ee0 ll0 ff0] 70)).heap.size + 1 ≤ ((w.alloc (.cells #[.int .i64 p0, .int .i64 q0, .slice a0 len0 cap0, .slice b0 m0 d0, .slice ee0 ll0 ff0] 70)).alloc (.cells #[.int .i64 p1, .slice a1 len1 cap1, .bool g1, .slice b1 m1 d1, .slice ee1 ll1 ff1] 84)).heap.size) := Lib.hid (by simp)
  have XaP_2 := Lib.hid (XaP_1.out.alloc (.cells #[.int .i64 p1, .slice a1 len1 cap1, .bool g1, .slice b1 m1 d1, .slice ee1 ll1 ff1] 84))
  have XaR_2 : Hid (Box ((w.alloc (.cells #[.int .i64 p0, .int .i64 q0, .slice a0 len0 cap0, .slice b0 m0 d0, .slice ee0 ll0 ff0] 70)).alloc (.cells #[.int .i64 p1, .slice a1 len1 cap1, .bool g1, .slice b1 m1 d1, .slice ee1 ll1 ff1] 84)) (w.heap.size + 1) 84 #[.int .i64 p1, .slice a1 len1 cap1, .bool g1, .slice b1 m1 d1, .slice ee1 ll1 ff1]) := Lib.hid (Box.at' (by simp))
  go_enter Tryz.func12, Tryz.ntmps12
  have eaP0a : ((w.alloc (.cells #[.int .i64 p0, .int .i64 q0, .slice a0 len0 cap0, .slice b0 m0 d0, .slice ee0 ll0 ff0] 70)).alloc (.cells #[.int .i64 p1, .slice a1 len1 cap1, .bool g1, .slice b1 m1 d1, .slice ee1 ll1 ff1] 84)).cell? ⟨w.heap.size, 0, none⟩ = some (.int .i64 p0) := XaP_2.out.cell 0
  have eaP1a : ((w.alloc (.cells #[.int .i64 p0, .int .i64 q0, .slice a0 len0 cap0, .slice b0 m0 d0, .slice ee0 ll0 ff0] 70)).alloc (.cells #[.int .i64 p1, .slice a1 len1 cap1, .bool g1, .slice b1 m1 d1, .slice ee1 ll1 ff1] 84)).cell? ⟨w.heap.size, 1, none⟩ = some (.int .i64 q0) := XaP_2.out.cell 1
  have eaP2a : ((w.alloc (.cells #[.int .i64 p0, .int .i64 q0, .slice a0 len0 cap0, .slice b0 m0 d0, .slice ee0 ll0 ff0] 70)).alloc (.cells #[.int .i64 p1, .slice a1 len1 cap1, .bool g1, .slice b1 m1 d1, .slice ee1 ll1 ff1] 84)).cell? ⟨w.heap.size, 2, none⟩ = some (.slice a0 len0 cap0) := XaP_2.out.cell 2
  have eaP3a : ((w.alloc (.cells #[.int .i64 p0, .int .i64 q0, .slice a0 len0 cap0, .slice b0 m0 d0, .slice ee0 ll0 ff0] 70)).alloc (.cells #[.int .i64 p1, .slice a1 len1 cap1, .bool g1, .slice b1 m1 d1, .slice ee1 ll1 ff1] 84)).cell? ⟨w.heap.size, 3, none⟩ = some (.slice b0 m0 d0) := XaP_2.out.cell 3
  have eaP4a : ((w.alloc (.cells #[.int .i64 p0, .int .i64 q0, .slice a0 len0 cap0, .slice b0 m0 d0, .slice ee0 ll0 ff0] 70)).alloc (.cells #[.int .i64 p1, .slice a1 len1 cap1, .bool g1, .slice b1 m1 d1, .slice ee1 ll1 ff1] 84)).cell? ⟨w.heap.size, 4, none⟩ = some (.slice ee0 ll0 ff0) := XaP_2.out.cell 4
  go_wp2_with fail
  clear eaP0a eaP1a eaP2a eaP3a eaP4a
  refine (szProgram_any p0 q0 a0 len0 cap0 b0 m0 d0 ee0 ll0 ff0 (1048576 : Int) _ hmz0 hmy0 hmyy0 (by omega) (by omega)).mono ?_
  rintro e ws0 ⟨lf0, rfl, hr, hb⟩
  have BW3 := Lib.hid (BW2.out.trans (hb.mono BW2.out.size))
  have sz3 : Hid (((w.alloc (.cells #[.int .i64 p0, .int .i64 q0, .slice a0 len0 cap0, .slice b0 m0 d0, .slice ee0 ll0 ff0] 70)).alloc (.cells #[.int .i64 p1, .slice a1 len1 cap1, .bool g1, .slice b1 m1 d1, .slice ee1 ll1 ff1] 84)).heap.size ≤ ws0.heap.size) := hb.size
  have XaP_3 := Lib.hid (XaP_2.out.below hb XaP_2.out.lt)
  have XaR_3 := Lib.hid (XaR_2.out.below hb XaR_2.out.lt)
  clear hb
  rcases hr with rfl | ⟨h0, hr⟩
  · go_wp2_with fail
    go_ret
    exact ⟨rfl, BW3.out⟩
  have lb0 : 0 ≤ lf0 ∧ lf0 ≤ 1048576 := by omega
  have ls0 : lf0 + ((len0 : Int) + m0 + ll0) = (1048576 : Int) := by omega
  have HLS0 := Lib.hid ls0
  have lt0 : len0 + m0 + ll0 ≤ 1048576 := by omega
  clear ls0 hr
  have h00 := h0
  clear h0
  have Inz0 : Hid (InP w a0 len0 z0 b0 m0 y0 ee0 ll0 yy0) := ⟨Hz0.out.inI (by omega), Hy0.out.inI (by omega), Hyy0.out.inI (by omega)⟩
  have eaR0a : ws0.cell? ⟨w.heap.size + 1, 0, none⟩ = some (.int .i64 p1) := XaR_3.out.cell 0
  have eaR1a : ws0.cell? ⟨w.heap.size + 1, 1, none⟩ = some (.slice a1 len1 cap1) := XaR_3.out.cell 1
  have eaR2a : ws0.cell? ⟨w.heap.size + 1, 2, none⟩ = some (.bool g1) := XaR_3.out.cell 2
  have eaR3a : ws0.cell? ⟨w.heap.size + 1, 3, none⟩ = some (.slice b1 m1 d1) := XaR_3.out.cell 3
  have eaR4a : ws0.cell? ⟨w.heap.size + 1, 4, none⟩ = some (.slice ee1 ll1 ff1) := XaR_3.out.cell 4
  go_wp2_with fail
  clear eaR0a eaR1a eaR2a eaR3a eaR4a
  refine (szResult_any p1 a1 len1 cap1 z1 g1 b1 m1 d1 ee1 ll1 ff1 lf0 _ (Hz1.out.below BW3.out) hmy1 hmyy1 (by omega) (by omega)).mono ?_
  rintro e ws1 ⟨lf1, rfl, hr, hb⟩
  have BW4 := Lib.hid (BW3.out.trans (hb.mono BW3.out.size))
  have sz4 : Hid (ws0.heap.size ≤ ws1.heap.size) := hb.size
  have XaP_4 := Lib.hid (XaP_3.out.below hb XaP_3.out.lt)
  have XaR_4 := Lib.hid (XaR_3.out.below hb XaR_3.out.lt)
  clear hb
  rcases hr with rfl | ⟨h0, hr⟩
  · go_wp2_with fail
    go_ret
    exact ⟨rfl, BW4.out⟩
  have lb1 : 0 ≤ lf1 ∧ lf1 ≤ 1048576 := by omega
  have ls1 : lf1 + ((len1 : Int) + tot z1 + m1 + ll1) = lf0 := by omega
  have HLS1 := Lib.hid ls1
  have lt1 : len1 + tot z1 + m1 + ll1 ≤ 1048576 := by omega
  clear ls1 hr
  have h01 := h0
  clear h0
  have Ftz1 := Lib.hid (Hz1.out.fits (by omega))
  have Iny1 : Hid (InI w b1 m1 y1) := Hy1.out.inI (by omega)
  have Inyy1 : Hid (InI w ee1 ll1 yy1) := Hyy1.out.inI (by omega)
  go_wp2_with fail
  refine (szRatS_any a2 len2 cap2 z2 lf1 _ (Hz2.out.below BW4.out) (by omega) (by omega)).mono ?_
  rintro e ws2 ⟨lf2, rfl, hr, hb⟩
  have BW5 := Lib.hid (BW4.out.trans (hb.mono BW4.out.size))
  have sz5 : Hid (ws1.heap.size ≤ ws2.heap.size) := hb.size
  have XaP_5 := Lib.hid (XaP_4.out.below hb XaP_4.out.lt)
  have XaR_5 := Lib.hid (XaR_4.out.below hb XaR_4.out.lt)
  clear hb
  rcases hr with rfl | ⟨h0, hr⟩
  · go_wp2_with fail
    go_ret
    exact ⟨rfl, BW5.out⟩
  have lb2 : 0 ≤ lf2 ∧ lf2 ≤ 1048576 := by omega
  have ls2 : lf2 + ((len2 : Int) + tot z2) = lf1 := by omega
  have HLS2 := Lib.hid ls2
  have lt2 : len2 + tot z2 ≤ 1048576 := by omega
  clear ls2 hr
  have h02 := h0
  clear h0
  have Ftz2 := Lib.hid (Hz2.out.fits (by omega))
  go_wp2_with fail
  have BW6 := Lib.hid BW5.out.drew
  have sz6 : Hid (ws2.heap.size ≤ ws2.drew.heap.size) := Nat.le_refl _
  have XaP_6 := Lib.hid XaP_5.out.drew
  have XaR_6 := Lib.hid XaR_5.out.drew
  have cvaP0 : Hid ((#[.int .i64 p0, .int .i64 q0, .slice a0 len0 cap0, .slice b0 m0 d0, .slice ee0 ll0 ff0] : Array Value)[0]? = some (.int .i64 p0)) := rfl
  have cvaP1 : Hid ((#[.int .i64 p0, .int .i64 q0, .slice a0 len0 cap0, .slice b0 m0 d0, .slice ee0 ll0 ff0] : Array Value)[1]? = some (.int .i64 q0)) := rfl
  have cvaP2 : Hid ((#[.int .i64 p0, .int .i64 q0, .slice a0 len0 cap0, .slice b0 m0 d0, .slice ee0 ll0 ff0] : Array Value)[2]? = some (.slice a0 len0 cap0)) := rfl
  have cvaP3 : Hid ((#[.int .i64 p0, .int .i64 q0, .slice a0 len0 cap0, .slice b0 m0 d0, .slice ee0 ll0 ff0] : Array Value)[3]? = some (.slice b0 m0 d0)) := rfl
  have cvaP4 : Hid ((#[.int .i64 p0, .int .i64 q0, .slice a0 len0 cap0, .slice b0 m0 d0, .slice ee0 ll0 ff0] : Array Value)[4]? = some (.slice ee0 ll0 ff0)) := rfl
  have cvaR0 : Hid ((#[.int .i64 p1, .slice a1 len1 cap1, .bool g1, .slice b1 m1 d1, .slice ee1 ll1 ff1] : Array Value)[0]? = some (.int .i64 p1)) := rfl
  have cvaR1 : Hid ((#[.int .i64 p1, .slice a1 len1 cap1, .bool g1, .slice b1 m1 d1, .slice ee1 ll1 ff1] : Array Value)[1]? = some (.slice a1 len1 cap1)) := rfl
  have cvaR2 : Hid ((#[.int .i64 p1, .slice a1 len1 cap1, .bool g1, .slice b1 m1 d1, .slice ee1 ll1 ff1] : Array Value)[2]? = some (.bool g1)) := rfl
  have cvaR3 : Hid ((#[.int .i64 p1, .slice a1 len1 cap1, .bool g1, .slice b1 m1 d1, .slice ee1 ll1 ff1] : Array Value)[3]? = some (.slice b1 m1 d1)) := rfl
  have cvaR4 : Hid ((#[.int .i64 p1, .slice a1 len1 cap1, .bool g1, .slice b1 m1 d1, .slice ee1 ll1 ff1] : Array Value)[4]? = some (.slice ee1 ll1 ff1)) := rfl
  go_region_held3 (fun w' => w'.cell? ⟨w.heap.size, 0, none⟩ = some (.int .i64 p0) ∧ w'.cell? ⟨w.heap.size, 1, none⟩ = some (.int .i64 q0) ∧ w'.cell? ⟨w.heap.size, 2, none⟩ = some (.slice a0 len0 cap0) ∧ w'.cell? ⟨w.heap.size, 3, none⟩ = some (.slice b0 m0 d0) ∧ w'.cell? ⟨w.heap.size, 4, none⟩ = some (.slice ee0 ll0 ff0) ∧ w'.cell? ⟨w.heap.size + 1, 0, none⟩ = some (.int .i64 p1) ∧ w'.cell? ⟨w.heap.size + 1, 1, none⟩ = some (.slice a1 len1 cap1) ∧ w'.cell? ⟨w.heap.size + 1, 2, none⟩ = some (.bool g1) ∧ w'.cell? ⟨w.heap.size + 1, 3, none⟩ = some (.slice b1 m1 d1) ∧ w'.cell? ⟨w.heap.size + 1, 4, none⟩ = some (.slice ee1 ll1 ff1)) (first | with_reducible exact ⟨cellS XaP_10 cvaP0, cellS XaP_10 cvaP1, cellS XaP_10 cvaP2, cellS XaP_10 cvaP3, cellS XaP_10 cvaP4, cellS XaR_10 cvaR0, cellS XaR_10 cvaR1, cellS XaR_10 cvaR2, cellS XaR_10 cvaR3, cellS XaR_10 cvaR4⟩ | with_reducible exact ⟨cellS XaP_9 cvaP0, cellS XaP_9 cvaP1, cellS XaP_9 cvaP2, cellS XaP_9 cvaP3, cellS XaP_9 cvaP4, cellS XaR_9 cvaR0, cellS XaR_9 cvaR1, cellS XaR_9 cvaR2, cellS XaR_9 cvaR3, cellS XaR_9 cvaR4⟩ | with_reducible exact ⟨cellS XaP_8 cvaP0, cellS XaP_8 cvaP1, cellS XaP_8 cvaP2, cellS XaP_8 cvaP3, cellS XaP_8 cvaP4, cellS XaR_8 cvaR0, cellS XaR_8 cvaR1, cellS XaR_8 cvaR2, cellS XaR_8 cvaR3, cellS XaR_8 cvaR4⟩ | with_reducible exact ⟨cellS XaP_7 cvaP0, cellS XaP_7 cvaP1, cellS XaP_7 cvaP2, cellS XaP_7 cvaP3, cellS XaP_7 cvaP4, cellS XaR_7 cvaR0, cellS XaR_7 cvaR1, cellS XaR_7 cvaR2, cellS XaR_7 cvaR3, cellS XaR_7 cvaR4⟩ | with_reducible exact ⟨cellS XaP_6 cvaP0, cellS XaP_6 cvaP1, cellS XaP_6 cvaP2, cellS XaP_6 cvaP3, cellS XaP_6 cvaP4, cellS XaR_6 cvaR0, cellS XaR_6 cvaR1, cellS XaR_6 cvaR2, cellS XaR_6 cvaR3, cellS XaR_6 cvaR4⟩) (first | (go_at_call 61; (with_reducible refine (spec_checkResult p0 q0 At1 len0 ct1 z0 Bt1 m0 dt1 y0 Ct1 ll0 ft1 yy0 p1 At2 len1 ct2 z1 g1 Bt2 m1 dt2 y1 Ct2 ll1 ft2 yy1 At3 len2 ct3 z2 _ (pin Rt1_9 Inz0) Bp0 Bq0 hcapt1 (svin Rt2_9 HHt2 (by omega) Ftz1) (Iny1.out.own (srow1 Rt2_9)) (room_own (srow1 Rt2_9)) (Inyy1.out.own (srow2 Rt2_9)) (room_own (srow2 Rt2_9)) (vin Rt3_9 HHt3 (by omega) Ftz2)).mono ?_); rintro e w4 ⟨r1_0, rfl, his, hb⟩; have BW10 := Lib.hid (BW9.out.trans (hb.mono BW9.out.size)); have sz10 : Hid (w3.heap.size ≤ w4.heap.size) := hb.size; have Rt1_10 := Lib.hid (Rt1_9.out.below hb); have Rt2_10 := Lib.hid (Rt2_9.out.below hb); have Rt3_10 := Lib.hid (Rt3_9.out.below hb); have XaP_10 := Lib.hid (XaP_9.out.below hb XaP_9.out.lt); have XaR_10 := Lib.hid (XaR_9.out.below hb XaR_9.out.lt); have IS := Lib.hid his; clear his; clear hb; clear Rt1_10 Ut1; clear Rt2_10 Ut2; clear Rt3_10 Ut3) | (go_at_call 63; (with_reducible refine (toRatS_any a2 len2 cap2 z2 _ (Hz2.out.below BW8.out) (by omega)).mono ?_); rintro e w3 ⟨V, Lt3, rfl, ho, hh, hb⟩; have BW9 := Lib.hid (BW8.out.trans (hb.mono BW8.out.size)); have sz9 : Hid (w2.heap.size ≤ w3.heap.size) := hb.size; have Rt1_9 := Lib.hid (Rt1_8.out.below hb); have Rt2_9 := Lib.hid (Rt2_8.out.below hb); have XaP_9 := Lib.hid (XaP_8.out.below hb XaP_8.out.lt); have XaR_9 := Lib.hid (XaR_8.out.below hb XaR_8.out.lt); obtain ⟨At3, ct3, rfl⟩ := ho.slice; have Ut3 := Lib.hid ho.lt; have Rt3_9 := Lib.hid ho.holds; have HHt3 := Lib.hid hh; obtain ⟨mt3, hmt3⟩ : ∃ m, m = mtot Lt3 := ⟨_, rfl⟩; have Mt3 : Hid (mt3 = len2 + tot z2) := Lib.hid (by have := mtot_has hh; have := Hz2.out.1; omega); have Qt3 : Hid (mtot Lt3 = mt3) := hmt3.symm; clear hmt3; clear ho hh hb) | (go_at_call 62; (with_reducible refine (toResult_any p1 a1 len1 cap1 z1 g1 b1 m1 d1 y1 ee1 ll1 ff1 yy1 _ (Hz1.out.below BW7.out) (by omega) (Iny1.out.below BW7.out) (Inyy1.out.below BW7.out)).mono ?_); rintro e w2 ⟨At2, ct2, Lt2, Bt2, dt2, Ct2, ft2, rfl, ho, hh, hb⟩; have BW8 := Lib.hid (BW7.out.trans (hb.mono BW7.out.size)); have sz8 : Hid (w1.heap.size ≤ w2.heap.size) := hb.size; have Rt1_8 := Lib.hid (Rt1_7.out.below hb); have XaP_8 := Lib.hid (XaP_7.out.below hb XaP_7.out.lt); have XaR_8 := Lib.hid (XaR_7.out.below hb XaR_7.out.lt); have Ut2 := Lib.hid ho.lt; have Rt2_8 := Lib.hid ho.holds; have HHt2 := Lib.hid hh; clear ho hh hb) | (go_at_call 45; (with_reducible refine (toProgram_any p0 q0 a0 len0 cap0 z0 b0 m0 d0 y0 ee0 ll0 ff0 yy0 _ (Inz0.out.below BW6.out)).mono ?_); rintro e w1 ⟨At1, ct1, Bt1, dt1, Ct1, ft1, rfl, ho, hb⟩; have BW7 := Lib.hid (BW6.out.trans (hb.mono BW6.out.size)); have sz7 : Hid (ws2.drew.heap.size ≤ w1.heap.size) := hb.size; have XaP_7 := Lib.hid (XaP_6.out.below hb XaP_6.out.lt); have XaR_7 := Lib.hid (XaR_6.out.below hb XaR_6.out.lt); have Ut1 := Lib.hid ho.lt; have Rt1_7 := Lib.hid ho.holds; have hcapt1 : len0 ≤ ct1 := own_le ho.1; clear ho hb))
  clear cvaP0 cvaP1 cvaP2 cvaP3 cvaP4 cvaR0 cvaR1 cvaR2 cvaR3 cvaR4
  have eaP0a : w4.cell? ⟨w.heap.size, 0, none⟩ = some (.int .i64 p0) := XaP_10.out.cell 0
  have eaP1a : w4.cell? ⟨w.heap.size, 1, none⟩ = some (.int .i64 q0) := XaP_10.out.cell 1
  have eaP2a : w4.cell? ⟨w.heap.size, 2, none⟩ = some (.slice a0 len0 cap0) := XaP_10.out.cell 2
  have eaP3a : w4.cell? ⟨w.heap.size, 3, none⟩ = some (.slice b0 m0 d0) := XaP_10.out.cell 3
  have eaP4a : w4.cell? ⟨w.heap.size, 4, none⟩ = some (.slice ee0 ll0 ff0) := XaP_10.out.cell 4
  go_wp2_with fail
  clear eaP0a eaP1a eaP2a eaP3a eaP4a
  refine (toProgram_any p0 q0 a0 len0 cap0 z0 b0 m0 d0 y0 ee0 ll0 ff0 yy0 _ (Inz0.out.below BW10.out)).mono ?_
  rintro e w5 ⟨Ax0, cx0, Bx0, dx0, Cx0, fx0, rfl, ho, hb⟩
  have BW11 := Lib.hid (BW10.out.trans (hb.mono BW10.out.size))
  have sz11 : Hid (w4.heap.size ≤ w5.heap.size) := hb.size
  have XaP_11 := Lib.hid (XaP_10.out.below hb XaP_10.out.lt)
  have XaR_11 := Lib.hid (XaR_10.out.below hb XaR_10.out.lt)
  have Ux0 := Lib.hid ho.lt
  have Rx0_11 := Lib.hid ho.holds
  have hcapx0 : len0 ≤ cx0 := own_le ho.1
  clear ho hb
  have BW12 := Lib.hid (BW11.out.alloc BW11.out.size (.cells #[.int .i64 p0, .int .i64 q0, .slice Ax0 len0 cx0, .slice Bx0 m0 dx0, .slice Cx0 ll0 fx0] 61))
  have sz12 : Hid (w5.heap.size + 1 ≤ (w5.alloc (.cells #[.int .i64 p0, .int .i64 q0, .slice Ax0 len0 cx0, .slice Bx0 m0 dx0, .slice Cx0 ll0 fx0] 61)).heap.size) := Lib.hid (by simp)
  have Rx0_12 := Lib.hid (Rx0_11.out.alloc (.cells #[.int .i64 p0, .int .i64 q0, .slice Ax0 len0 cx0, .slice Bx0 m0 dx0, .slice Cx0 ll0 fx0] 61))
  have XaP_12 := Lib.hid (XaP_11.out.alloc (.cells #[.int .i64 p0, .int .i64 q0, .slice Ax0 len0 cx0, .slice Bx0 m0 dx0, .slice Cx0 ll0 fx0] 61))
  have XaR_12 := Lib.hid (XaR_11.out.alloc (.cells #[.int .i64 p0, .int .i64 q0, .slice Ax0 len0 cx0, .slice Bx0 m0 dx0, .slice Cx0 ll0 fx0] 61))
  have Xx0_12 := Lib.hid (Box.new w5 61 #[.int .i64 p0, .int .i64 q0, .slice Ax0 len0 cx0, .slice Bx0 m0 dx0, .slice Cx0 ll0 fx0])
  have eaR0a : w5.cell? ⟨w.heap.size + 1, 0, none⟩ = some (.int .i64 p1) := XaR_11.out.cell 0
  have eaR1a : w5.cell? ⟨w.heap.size + 1, 1, none⟩ = some (.slice a1 len1 cap1) := XaR_11.out.cell 1
  have eaR2a : w5.cell? ⟨w.heap.size + 1, 2, none⟩ = some (.bool g1) := XaR_11.out.cell 2
  have eaR3a : w5.cell? ⟨w.heap.size + 1, 3, none⟩ = some (.slice b1 m1 d1) := XaR_11.out.cell 3
  have eaR4a : w5.cell? ⟨w.heap.size + 1, 4, none⟩ = some (.slice ee1 ll1 ff1) := XaR_11.out.cell 4
  have eaR0b : (w5.alloc (.cells #[.int .i64 p0, .int .i64 q0, .slice Ax0 len0 cx0, .slice Bx0 m0 dx0, .slice Cx0 ll0 fx0] 61)).cell? ⟨w.heap.size + 1, 0, none⟩ = some (.int .i64 p1) := XaR_12.out.cell 0
  have eaR1b : (w5.alloc (.cells #[.int .i64 p0, .int .i64 q0, .slice Ax0 len0 cx0, .slice Bx0 m0 dx0, .slice Cx0 ll0 fx0] 61)).cell? ⟨w.heap.size + 1, 1, none⟩ = some (.slice a1 len1 cap1) := XaR_12.out.cell 1
  have eaR2b : (w5.alloc (.cells #[.int .i64 p0, .int .i64 q0, .slice Ax0 len0 cx0, .slice Bx0 m0 dx0, .slice Cx0 ll0 fx0] 61)).cell? ⟨w.heap.size + 1, 2, none⟩ = some (.bool g1) := XaR_12.out.cell 2
  have eaR3b : (w5.alloc (.cells #[.int .i64 p0, .int .i64 q0, .slice Ax0 len0 cx0, .slice Bx0 m0 dx0, .slice Cx0 ll0 fx0] 61)).cell? ⟨w.heap.size + 1, 3, none⟩ = some (.slice b1 m1 d1) := XaR_12.out.cell 3
  have eaR4b : (w5.alloc (.cells #[.int .i64 p0, .int .i64 q0, .slice Ax0 len0 cx0, .slice Bx0 m0 dx0, .slice Cx0 ll0 fx0] 61)).cell? ⟨w.heap.size + 1, 4, none⟩ = some (.slice ee1 ll1 ff1) := XaR_12.out.cell 4
  have neaR0 : w5.heap.size ≠ w.heap.size + 1 := (by have := XaR_11.out.lt; omega)
  go_wp2_with fail
  clear eaR0a eaR1a eaR2a eaR3a eaR4a eaR0b eaR1b eaR2b eaR3b eaR4b neaR0
  refine (toResult_any p1 a1 len1 cap1 z1 g1 b1 m1 d1 y1 ee1 ll1 ff1 yy1 _ (Hz1.out.below BW12.out) (by omega) (Iny1.out.below BW12.out) (Inyy1.out.below BW12.out)).mono ?_
  rintro e w6 ⟨Ax1, cx1, Lx1, Bx1, dx1, Cx1, fx1, rfl, ho, hh, hb⟩
  have BW13 := Lib.hid (BW12.out.trans (hb.mono BW12.out.size))
  have sz13 : Hid ((w5.alloc (.cells #[.int .i64 p0, .int .i64 q0, .slice Ax0 len0 cx0, .slice Bx0 m0 dx0, .slice Cx0 ll0 fx0] 61)).heap.size ≤ w6.heap.size) := hb.size
  have Rx0_13 := Lib.hid (Rx0_12.out.below hb)
  have XaP_13 := Lib.hid (XaP_12.out.below hb XaP_12.out.lt)
  have XaR_13 := Lib.hid (XaR_12.out.below hb XaR_12.out.lt)
  have Xx0_13 := Lib.hid (Xx0_12.out.below hb Xx0_12.out.lt)
  have Ux1 := Lib.hid ho.lt
  have Rx1_13 := Lib.hid ho.holds
  have HHx1 := Lib.hid hh
  clear ho hh hb
  have BW14 := Lib.hid (BW13.out.alloc BW13.out.size (.cells #[.int .i64 p1, .slice Ax1 len1 cx1, .bool g1, .slice Bx1 m1 dx1, .slice Cx1 ll1 fx1] 64))
  have sz14 : Hid (w6.heap.size + 1 ≤ (w6.alloc (.cells #[.int .i64 p1, .slice Ax1 len1 cx1, .bool g1, .slice Bx1 m1 dx1, .slice Cx1 ll1 fx1] 64)).heap.size) := Lib.hid (by simp)
  have Rx0_14 := Lib.hid (Rx0_13.out.alloc (.cells #[.int .i64 p1, .slice Ax1 len1 cx1, .bool g1, .slice Bx1 m1 dx1, .slice Cx1 ll1 fx1] 64))
  have Rx1_14 := Lib.hid (Rx1_13.out.alloc (.cells #[.int .i64 p1, .slice Ax1 len1 cx1, .bool g1, .slice Bx1 m1 dx1, .slice Cx1 ll1 fx1] 64))
  have XaP_14 := Lib.hid (XaP_13.out.alloc (.cells #[.int .i64 p1, .slice Ax1 len1 cx1, .bool g1, .slice Bx1 m1 dx1, .slice Cx1 ll1 fx1] 64))
  have XaR_14 := Lib.hid (XaR_13.out.alloc (.cells #[.int .i64 p1, .slice Ax1 len1 cx1, .bool g1, .slice Bx1 m1 dx1, .slice Cx1 ll1 fx1] 64))
  have Xx0_14 := Lib.hid (Xx0_13.out.alloc (.cells #[.int .i64 p1, .slice Ax1 len1 cx1, .bool g1, .slice Bx1 m1 dx1, .slice Cx1 ll1 fx1] 64))
  have Xx1_14 := Lib.hid (Box.new w6 64 #[.int .i64 p1, .slice Ax1 len1 cx1, .bool g1, .slice Bx1 m1 dx1, .slice Cx1 ll1 fx1])
  go_wp2_with fail
  refine (toRatS_any a2 len2 cap2 z2 _ (Hz2.out.below BW14.out) (by omega)).mono ?_
  rintro e w7 ⟨V, Lx2, rfl, ho, hh, hb⟩
  have BW15 := Lib.hid (BW14.out.trans (hb.mono BW14.out.size))
  have sz15 : Hid ((w6.alloc (.cells #[.int .i64 p1, .slice Ax1 len1 cx1, .bool g1, .slice Bx1 m1 dx1, .slice Cx1 ll1 fx1] 64)).heap.size ≤ w7.heap.size) := hb.size
  have Rx0_15 := Lib.hid (Rx0_14.out.below hb)
  have Rx1_15 := Lib.hid (Rx1_14.out.below hb)
  have XaP_15 := Lib.hid (XaP_14.out.below hb XaP_14.out.lt)
  have XaR_15 := Lib.hid (XaR_14.out.below hb XaR_14.out.lt)
  have Xx0_15 := Lib.hid (Xx0_14.out.below hb Xx0_14.out.lt)
  have Xx1_15 := Lib.hid (Xx1_14.out.below hb Xx1_14.out.lt)
  obtain ⟨Ax2, cx2, rfl⟩ := ho.slice
  have Ux2 := Lib.hid ho.lt
  have Rx2_15 := Lib.hid ho.holds
  have HHx2 := Lib.hid hh
  obtain ⟨mx2, hmx2⟩ : ∃ m, m = mtot Lx2 := ⟨_, rfl⟩
  have Mx2 : Hid (mx2 = len2 + tot z2) := Lib.hid (by have := mtot_has hh; have := Hz2.out.1; omega)
  have Qx2 : Hid (mtot Lx2 = mx2) := hmx2.symm
  clear hmx2
  clear ho hh hb
  have ex00a : w7.cell? ⟨w5.heap.size, 0, none⟩ = some (.int .i64 p0) := Xx0_15.out.cell 0
  have ex01a : w7.cell? ⟨w5.heap.size, 1, none⟩ = some (.int .i64 q0) := Xx0_15.out.cell 1
  have ex02a : w7.cell? ⟨w5.heap.size, 2, none⟩ = some (.slice Ax0 len0 cx0) := Xx0_15.out.cell 2
  have ex03a : w7.cell? ⟨w5.heap.size, 3, none⟩ = some (.slice Bx0 m0 dx0) := Xx0_15.out.cell 3
  have ex04a : w7.cell? ⟨w5.heap.size, 4, none⟩ = some (.slice Cx0 ll0 fx0) := Xx0_15.out.cell 4
  have ex10a : w7.cell? ⟨w6.heap.size, 0, none⟩ = some (.int .i64 p1) := Xx1_15.out.cell 0
  have ex11a : w7.cell? ⟨w6.heap.size, 1, none⟩ = some (.slice Ax1 len1 cx1) := Xx1_15.out.cell 1
  have ex12a : w7.cell? ⟨w6.heap.size, 2, none⟩ = some (.bool g1) := Xx1_15.out.cell 2
  have ex13a : w7.cell? ⟨w6.heap.size, 3, none⟩ = some (.slice Bx1 m1 dx1) := Xx1_15.out.cell 3
  have ex14a : w7.cell? ⟨w6.heap.size, 4, none⟩ = some (.slice Cx1 ll1 fx1) := Xx1_15.out.cell 4
  go_wp2_with fail
  clear ex00a ex01a ex02a ex03a ex04a ex10a ex11a ex12a ex13a ex14a
  refine (impl_checkResult p0 q0 Ax0 len0 cx0 z0 Bx0 m0 dx0 y0 Cx0 ll0 fx0 yy0 p1 Ax1 len1 cx1 z1 g1 Bx1 m1 dx1 y1 Cx1 ll1 fx1 yy1 Ax2 len2 cx2 z2 _ (pin Rx0_15 Inz0) Bp0 Bq0 hcapx0 (svin Rx1_15 HHx1 (by omega) Ftz1) (Iny1.out.own (srow1 Rx1_15)) (room_own (srow1 Rx1_15)) (Inyy1.out.own (srow2 Rx1_15)) (room_own (srow2 Rx1_15)) (vin Rx2_15 HHx2 (by omega) Ftz2)).mono ?_
  rintro e w8 ⟨r2_0, rfl, his, hb⟩
  have BW16 := Lib.hid (BW15.out.trans (hb.mono BW15.out.size))
  have sz16 : Hid (w7.heap.size ≤ w8.heap.size) := hb.size
  have Rx0_16 := Lib.hid (Rx0_15.out.below hb)
  have Rx1_16 := Lib.hid (Rx1_15.out.below hb)
  have Rx2_16 := Lib.hid (Rx2_15.out.below hb)
  have XaP_16 := Lib.hid (XaP_15.out.below hb XaP_15.out.lt)
  have XaR_16 := Lib.hid (XaR_15.out.below hb XaR_15.out.lt)
  have Xx0_16 := Lib.hid (Xx0_15.out.below hb Xx0_15.out.lt)
  have Xx1_16 := Lib.hid (Xx1_15.out.below hb Xx1_15.out.lt)
  obtain rfl := checkResult_unique IS.out his
  clear his
  clear hb
  go_wp2_with fail
  have BW17 := Lib.hid BW16.out.drew
  have sz17 : Hid (w8.heap.size ≤ w8.drew.heap.size) := Nat.le_refl _
  have Rx0_17 := Lib.hid Rx0_16.out.drew
  have Rx1_17 := Lib.hid Rx1_16.out.drew
  have Rx2_17 := Lib.hid Rx2_16.out.drew
  have XaP_17 := Lib.hid XaP_16.out.drew
  have XaR_17 := Lib.hid XaR_16.out.drew
  have Xx0_17 := Lib.hid Xx0_16.out.drew
  have Xx1_17 := Lib.hid Xx1_16.out.drew
  have cvx00 : Hid ((#[.int .i64 p0, .int .i64 q0, .slice Ax0 len0 cx0, .slice Bx0 m0 dx0, .slice Cx0 ll0 fx0] : Array Value)[0]? = some (.int .i64 p0)) := rfl
  have cvx01 : Hid ((#[.int .i64 p0, .int .i64 q0, .slice Ax0 len0 cx0, .slice Bx0 m0 dx0, .slice Cx0 ll0 fx0] : Array Value)[1]? = some (.int .i64 q0)) := rfl
  have cvx02 : Hid ((#[.int .i64 p0, .int .i64 q0, .slice Ax0 len0 cx0, .slice Bx0 m0 dx0, .slice Cx0 ll0 fx0] : Array Value)[2]? = some (.slice Ax0 len0 cx0)) := rfl
  have cvx03 : Hid ((#[.int .i64 p0, .int .i64 q0, .slice Ax0 len0 cx0, .slice Bx0 m0 dx0, .slice Cx0 ll0 fx0] : Array Value)[3]? = some (.slice Bx0 m0 dx0)) := rfl
  have cvx04 : Hid ((#[.int .i64 p0, .int .i64 q0, .slice Ax0 len0 cx0, .slice Bx0 m0 dx0, .slice Cx0 ll0 fx0] : Array Value)[4]? = some (.slice Cx0 ll0 fx0)) := rfl
  have cvaP0 : Hid ((#[.int .i64 p0, .int .i64 q0, .slice a0 len0 cap0, .slice b0 m0 d0, .slice ee0 ll0 ff0] : Array Value)[0]? = some (.int .i64 p0)) := rfl
  have cvaP1 : Hid ((#[.int .i64 p0, .int .i64 q0, .slice a0 len0 cap0, .slice b0 m0 d0, .slice ee0 ll0 ff0] : Array Value)[1]? = some (.int .i64 q0)) := rfl
  have cvaP2 : Hid ((#[.int .i64 p0, .int .i64 q0, .slice a0 len0 cap0, .slice b0 m0 d0, .slice ee0 ll0 ff0] : Array Value)[2]? = some (.slice a0 len0 cap0)) := rfl
  have cvaP3 : Hid ((#[.int .i64 p0, .int .i64 q0, .slice a0 len0 cap0, .slice b0 m0 d0, .slice ee0 ll0 ff0] : Array Value)[3]? = some (.slice b0 m0 d0)) := rfl
  have cvaP4 : Hid ((#[.int .i64 p0, .int .i64 q0, .slice a0 len0 cap0, .slice b0 m0 d0, .slice ee0 ll0 ff0] : Array Value)[4]? = some (.slice ee0 ll0 ff0)) := rfl
  go_region_held3 (fun w' => w'.cell? ⟨w5.heap.size, 0, none⟩ = some (.int .i64 p0) ∧ w'.cell? ⟨w5.heap.size, 1, none⟩ = some (.int .i64 q0) ∧ w'.cell? ⟨w5.heap.size, 2, none⟩ = some (.slice Ax0 len0 cx0) ∧ w'.cell? ⟨w5.heap.size, 3, none⟩ = some (.slice Bx0 m0 dx0) ∧ w'.cell? ⟨w5.heap.size, 4, none⟩ = some (.slice Cx0 ll0 fx0) ∧ w'.cell? ⟨w.heap.size, 0, none⟩ = some (.int .i64 p0) ∧ w'.cell? ⟨w.heap.size, 1, none⟩ = some (.int .i64 q0) ∧ w'.cell? ⟨w.heap.size, 2, none⟩ = some (.slice a0 len0 cap0) ∧ w'.cell? ⟨w.heap.size, 3, none⟩ = some (.slice b0 m0 d0) ∧ w'.cell? ⟨w.heap.size, 4, none⟩ = some (.slice ee0 ll0 ff0)) (first | with_reducible exact ⟨cellS Xx0_19 cvx00, cellS Xx0_19 cvx01, cellS Xx0_19 cvx02, cellS Xx0_19 cvx03, cellS Xx0_19 cvx04, cellS XaP_19 cvaP0, cellS XaP_19 cvaP1, cellS XaP_19 cvaP2, cellS XaP_19 cvaP3, cellS XaP_19 cvaP4⟩ | with_reducible exact ⟨cellS Xx0_18 cvx00, cellS Xx0_18 cvx01, cellS Xx0_18 cvx02, cellS Xx0_18 cvx03, cellS Xx0_18 cvx04, cellS XaP_18 cvaP0, cellS XaP_18 cvaP1, cellS XaP_18 cvaP2, cellS XaP_18 cvaP3, cellS XaP_18 cvaP4⟩ | with_reducible exact ⟨cellS Xx0_17 cvx00, cellS Xx0_17 cvx01, cellS Xx0_17 cvx02, cellS Xx0_17 cvx03, cellS Xx0_17 cvx04, cellS XaP_17 cvaP0, cellS XaP_17 cvaP1, cellS XaP_17 cvaP2, cellS XaP_17 cvaP3, cellS XaP_17 cvaP4⟩) (first | (go_at_call 47; refine (eqProgram_same p0 q0 Ax0 At4 len0 cx0 ct4 z0 Bx0 Bt4 m0 dx0 dt4 y0 Cx0 Ct4 ll0 fx0 ft4 yy0 _ (pin Rx0_18 Inz0) (pin Rt4_18 Inz0)).mono ?_; rintro e w10 ⟨rfl, hb⟩; have BW19 := Lib.hid (BW18.out.trans (hb.mono BW18.out.size)); have sz19 : Hid (w9.heap.size ≤ w10.heap.size) := hb.size; have Rx0_19 := Lib.hid (Rx0_18.out.below hb); have Rx1_19 := Lib.hid (Rx1_18.out.below hb); have Rx2_19 := Lib.hid (Rx2_18.out.below hb); have Rt4_19 := Lib.hid (Rt4_18.out.below hb); have XaP_19 := Lib.hid (XaP_18.out.below hb XaP_18.out.lt); have XaR_19 := Lib.hid (XaR_18.out.below hb XaR_18.out.lt); have Xx0_19 := Lib.hid (Xx0_18.out.below hb Xx0_18.out.lt); have Xx1_19 := Lib.hid (Xx1_18.out.below hb Xx1_18.out.lt); clear hb) | (go_at_call 45; refine (toProgram_any p0 q0 a0 len0 cap0 z0 b0 m0 d0 y0 ee0 ll0 ff0 yy0 _ (Inz0.out.below BW17.out)).mono ?_; rintro e w9 ⟨At4, ct4, Bt4, dt4, Ct4, ft4, rfl, ho, hb⟩; have BW18 := Lib.hid (BW17.out.trans (hb.mono BW17.out.size)); have sz18 : Hid (w8.drew.heap.size ≤ w9.heap.size) := hb.size; have Rx0_18 := Lib.hid (Rx0_17.out.below hb); have Rx1_18 := Lib.hid (Rx1_17.out.below hb); have Rx2_18 := Lib.hid (Rx2_17.out.below hb); have XaP_18 := Lib.hid (XaP_17.out.below hb XaP_17.out.lt); have XaR_18 := Lib.hid (XaR_17.out.below hb XaR_17.out.lt); have Xx0_18 := Lib.hid (Xx0_17.out.below hb Xx0_17.out.lt); have Xx1_18 := Lib.hid (Xx1_17.out.below hb Xx1_17.out.lt); have Ut4 := Lib.hid ho.lt; have Rt4_18 := Lib.hid ho.holds; have hcapt4 : len0 ≤ ct4 := own_le ho.1; clear ho hb))
  clear cvx00 cvx01 cvx02 cvx03 cvx04 cvaP0 cvaP1 cvaP2 cvaP3 cvaP4
  clear Rx0_19 Ux0 Xx0_19
  clear Rt4_19 Ut4
  go_wp2_with fail
  have BW20 := Lib.hid BW19.out.drew
  have sz20 : Hid (w10.heap.size ≤ w10.drew.heap.size) := Nat.le_refl _
  have Rx1_20 := Lib.hid Rx1_19.out.drew
  have Rx2_20 := Lib.hid Rx2_19.out.drew
  have XaP_20 := Lib.hid XaP_19.out.drew
  have XaR_20 := Lib.hid XaR_19.out.drew
  have Xx1_20 := Lib.hid Xx1_19.out.drew
  have cvx10 : Hid ((#[.int .i64 p1, .slice Ax1 len1 cx1, .bool g1, .slice Bx1 m1 dx1, .slice Cx1 ll1 fx1] : Array Value)[0]? = some (.int .i64 p1)) := rfl
  have cvx11 : Hid ((#[.int .i64 p1, .slice Ax1 len1 cx1, .bool g1, .slice Bx1 m1 dx1, .slice Cx1 ll1 fx1] : Array Value)[1]? = some (.slice Ax1 len1 cx1)) := rfl
  have cvx12 : Hid ((#[.int .i64 p1, .slice Ax1 len1 cx1, .bool g1, .slice Bx1 m1 dx1, .slice Cx1 ll1 fx1] : Array Value)[2]? = some (.bool g1)) := rfl
  have cvx13 : Hid ((#[.int .i64 p1, .slice Ax1 len1 cx1, .bool g1, .slice Bx1 m1 dx1, .slice Cx1 ll1 fx1] : Array Value)[3]? = some (.slice Bx1 m1 dx1)) := rfl
  have cvx14 : Hid ((#[.int .i64 p1, .slice Ax1 len1 cx1, .bool g1, .slice Bx1 m1 dx1, .slice Cx1 ll1 fx1] : Array Value)[4]? = some (.slice Cx1 ll1 fx1)) := rfl
  have cvaR0 : Hid ((#[.int .i64 p1, .slice a1 len1 cap1, .bool g1, .slice b1 m1 d1, .slice ee1 ll1 ff1] : Array Value)[0]? = some (.int .i64 p1)) := rfl
  have cvaR1 : Hid ((#[.int .i64 p1, .slice a1 len1 cap1, .bool g1, .slice b1 m1 d1, .slice ee1 ll1 ff1] : Array Value)[1]? = some (.slice a1 len1 cap1)) := rfl
  have cvaR2 : Hid ((#[.int .i64 p1, .slice a1 len1 cap1, .bool g1, .slice b1 m1 d1, .slice ee1 ll1 ff1] : Array Value)[2]? = some (.bool g1)) := rfl
  have cvaR3 : Hid ((#[.int .i64 p1, .slice a1 len1 cap1, .bool g1, .slice b1 m1 d1, .slice ee1 ll1 ff1] : Array Value)[3]? = some (.slice b1 m1 d1)) := rfl
  have cvaR4 : Hid ((#[.int .i64 p1, .slice a1 len1 cap1, .bool g1, .slice b1 m1 d1, .slice ee1 ll1 ff1] : Array Value)[4]? = some (.slice ee1 ll1 ff1)) := rfl
  go_region_held3 (fun w' => w'.cell? ⟨w6.heap.size, 0, none⟩ = some (.int .i64 p1) ∧ w'.cell? ⟨w6.heap.size, 1, none⟩ = some (.slice Ax1 len1 cx1) ∧ w'.cell? ⟨w6.heap.size, 2, none⟩ = some (.bool g1) ∧ w'.cell? ⟨w6.heap.size, 3, none⟩ = some (.slice Bx1 m1 dx1) ∧ w'.cell? ⟨w6.heap.size, 4, none⟩ = some (.slice Cx1 ll1 fx1) ∧ w'.cell? ⟨w.heap.size + 1, 0, none⟩ = some (.int .i64 p1) ∧ w'.cell? ⟨w.heap.size + 1, 1, none⟩ = some (.slice a1 len1 cap1) ∧ w'.cell? ⟨w.heap.size + 1, 2, none⟩ = some (.bool g1) ∧ w'.cell? ⟨w.heap.size + 1, 3, none⟩ = some (.slice b1 m1 d1) ∧ w'.cell? ⟨w.heap.size + 1, 4, none⟩ = some (.slice ee1 ll1 ff1)) (first | with_reducible exact ⟨cellS Xx1_22 cvx10, cellS Xx1_22 cvx11, cellS Xx1_22 cvx12, cellS Xx1_22 cvx13, cellS Xx1_22 cvx14, cellS XaR_22 cvaR0, cellS XaR_22 cvaR1, cellS XaR_22 cvaR2, cellS XaR_22 cvaR3, cellS XaR_22 cvaR4⟩ | with_reducible exact ⟨cellS Xx1_21 cvx10, cellS Xx1_21 cvx11, cellS Xx1_21 cvx12, cellS Xx1_21 cvx13, cellS Xx1_21 cvx14, cellS XaR_21 cvaR0, cellS XaR_21 cvaR1, cellS XaR_21 cvaR2, cellS XaR_21 cvaR3, cellS XaR_21 cvaR4⟩ | with_reducible exact ⟨cellS Xx1_20 cvx10, cellS Xx1_20 cvx11, cellS Xx1_20 cvx12, cellS Xx1_20 cvx13, cellS Xx1_20 cvx14, cellS XaR_20 cvaR0, cellS XaR_20 cvaR1, cellS XaR_20 cvaR2, cellS XaR_20 cvaR3, cellS XaR_20 cvaR4⟩) (first | (go_at_call 46; refine (eqResult_same p1 Ax1 At5 len1 cx1 ct5 z1 g1 Bx1 Bt5 m1 dx1 dt5 y1 Cx1 Ct5 ll1 fx1 ft5 yy1 _ (svin Rx1_21 HHx1 (by omega) Ftz1) (svin Rt5_21 HHt5 (by omega) Ftz1) (Iny1.out.own (srow1 Rx1_21)) (Iny1.out.own (srow1 Rt5_21)) (Inyy1.out.own (srow2 Rx1_21)) (Inyy1.out.own (srow2 Rt5_21))).mono ?_; rintro e w12 ⟨rfl, hb⟩; have BW22 := Lib.hid (BW21.out.trans (hb.mono BW21.out.size)); have sz22 : Hid (w11.heap.size ≤ w12.heap.size) := hb.size; have Rx1_22 := Lib.hid (Rx1_21.out.below hb); have Rx2_22 := Lib.hid (Rx2_21.out.below hb); have Rt5_22 := Lib.hid (Rt5_21.out.below hb); have XaP_22 := Lib.hid (XaP_21.out.below hb XaP_21.out.lt); have XaR_22 := Lib.hid (XaR_21.out.below hb XaR_21.out.lt); have Xx1_22 := Lib.hid (Xx1_21.out.below hb Xx1_21.out.lt); clear hb) | (go_at_call 62; refine (toResult_any p1 a1 len1 cap1 z1 g1 b1 m1 d1 y1 ee1 ll1 ff1 yy1 _ (Hz1.out.below BW20.out) (by omega) (Iny1.out.below BW20.out) (Inyy1.out.below BW20.out)).mono ?_; rintro e w11 ⟨At5, ct5, Lt5, Bt5, dt5, Ct5, ft5, rfl, ho, hh, hb⟩; have BW21 := Lib.hid (BW20.out.trans (hb.mono BW20.out.size)); have sz21 : Hid (w10.drew.heap.size ≤ w11.heap.size) := hb.size; have Rx1_21 := Lib.hid (Rx1_20.out.below hb); have Rx2_21 := Lib.hid (Rx2_20.out.below hb); have XaP_21 := Lib.hid (XaP_20.out.below hb XaP_20.out.lt); have XaR_21 := Lib.hid (XaR_20.out.below hb XaR_20.out.lt); have Xx1_21 := Lib.hid (Xx1_20.out.below hb Xx1_20.out.lt); have Ut5 := Lib.hid ho.lt; have Rt5_21 := Lib.hid ho.holds; have HHt5 := Lib.hid hh; clear ho hh hb))
  clear cvx10 cvx11 cvx12 cvx13 cvx14 cvaR0 cvaR1 cvaR2 cvaR3 cvaR4
  clear Rx1_22 Ux1 Xx1_22
  clear Rt5_22 Ut5
  go_wp2_with fail
  refine (toRatS_any a2 len2 cap2 z2 _ (Hz2.out.below BW22.out) (by omega)).mono ?_
  rintro e w13 ⟨V, Lt6, rfl, ho, hh, hb⟩
  have BW23 := Lib.hid (BW22.out.trans (hb.mono BW22.out.size))
  have sz23 : Hid (w12.heap.size ≤ w13.heap.size) := hb.size
  have Rx2_23 := Lib.hid (Rx2_22.out.below hb)
  have XaP_23 := Lib.hid (XaP_22.out.below hb XaP_22.out.lt)
  have XaR_23 := Lib.hid (XaR_22.out.below hb XaR_22.out.lt)
  obtain ⟨At6, ct6, rfl⟩ := ho.slice
  have Ut6 := Lib.hid ho.lt
  have Rt6_23 := Lib.hid ho.holds
  have HHt6 := Lib.hid hh
  obtain ⟨mt6, hmt6⟩ : ∃ m, m = mtot Lt6 := ⟨_, rfl⟩
  have Mt6 : Hid (mt6 = len2 + tot z2) := Lib.hid (by have := mtot_has hh; have := Hz2.out.1; omega)
  have Qt6 : Hid (mtot Lt6 = mt6) := hmt6.symm
  clear hmt6
  clear ho hh hb
  go_wp2_with fail
  refine (eqRatS_same Ax2 At6 len2 cx2 ct6 z2 _ (vin Rx2_23 HHx2 (by omega) Ftz2) (vin Rt6_23 HHt6 (by omega) Ftz2)).mono ?_
  rintro e w14 ⟨rfl, hb⟩
  have BW24 := Lib.hid (BW23.out.trans (hb.mono BW23.out.size))
  have sz24 : Hid (w13.heap.size ≤ w14.heap.size) := hb.size
  have Rx2_24 := Lib.hid (Rx2_23.out.below hb)
  have Rt6_24 := Lib.hid (Rt6_23.out.below hb)
  have XaP_24 := Lib.hid (XaP_23.out.below hb XaP_23.out.lt)
  have XaR_24 := Lib.hid (XaR_23.out.below hb XaR_23.out.lt)
  clear hb
  clear Rx2_24 Ux2
  clear Rt6_24 Ut6
  go_wp2_with fail
  go_ret
  exact ⟨rfl, BW24.out⟩
end Go.Proofs.YtegclofijaoajaaGreat.fnExactCheckResult
