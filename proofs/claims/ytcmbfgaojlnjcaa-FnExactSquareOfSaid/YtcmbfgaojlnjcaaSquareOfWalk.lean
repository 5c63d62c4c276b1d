/- The walk of the law: for all arguments the law FnExactSquareOf returns true: the program's SquareOf answers as the model's; no condition on them. -/
import Derived.Test.YtcmbfgaojlnjcaaStM6
import Derived.Test.YtcmbfgaojlnjcaaStV2
import Derived.ProofKit
import Derived.OpenShut
import Derived.ShutString
import Derived.Lib.SmallJoins
namespace Go.Proofs.Ytcmbfgaojlnjcaa.fnExactSquareOf
set_option maxRecDepth 100000
open Go.ChangeShapes Go.WideShapes Go.ChangeAt Go.RowKit Go.Joins Go.Deep
open Go.ChangeMaps (open_string shut_string)

set_option maxRecDepth 100000 in
set_option maxHeartbeats 16000000 in
theorem walk {w : World} (a0 : Option Addr) (len0 cap0 : Nat) (z0 : List JD) (hz0 : IsJ w a0 len0 z0) (b0 : Option Addr) (m0 d0 : Nat) (y0 : List MD) (hy0 : IsM w b0 m0 y0) (a1 : Int) (ha1 : (Lit.int .i64 a1).wf = true) :
    Calls Try.prog 10 #[.agg #[.slice a0 len0 cap0, .slice b0 m0 d0], .int .i64 a1] w fun e w' => e = .returned (.bool true) ∧ Below w.heap.size w w' := by
  have hmz0 : len0 ≤ maxLen := hz0.2.1
  have Hz0 := Lib.hid hz0
  clear hz0
  have hmy0 : m0 ≤ maxLen := hy0.2.1
  have Hy0 := Lib.hid hy0
  clear hy0
  have Ba1 := bounds_i64 ha1
  clear ha1
  have BW0 : Hid (Below w.heap.size w w) := Below.refl _ _
  have BW1 := Lib.hid (BW0.out.alloc BW0.out.size (.cells #[.slice a0 len0 cap0, .slice b0 m0 d0] 42))
  have sz1 : Hid (w.heap.size + 1 ≤ (w.alloc (.cells #[.slice a0 len0 cap0, .slice b0 m0 d0] 42)).heap.size) := Lib.hid (by simp)
  have XaS_1 := Lib.hid (Box.new w 42 #[.slice a0 len0 cap0, .slice b0 m0 d0])
  go_enter Try.func10, Try.ntmps10
  have eaS0a : (w.alloc (.cells #[.slice a0 len0 cap0, .slice b0 m0 d0] 42)).cell? ⟨w.heap.size, 0, none⟩ = some (.slice a0 len0 cap0) := XaS_1.out.cell 0
  have eaS1a : (w.alloc (.cells #[.slice a0 len0 cap0, .slice b0 m0 d0] 42)).cell? ⟨w.heap.size, 1, none⟩ = some (.slice b0 m0 d0) := XaS_1.out.cell 1
  go_wp2_with fail
  clear eaS0a eaS1a
  refine (szStructure_any a0 len0 cap0 z0 b0 m0 d0 (1048576 : Int) _ (Hz0.out.below BW1.out) hmy0 (by omega) (by omega)).mono ?_
  rintro e ws0 ⟨lf0, rfl, hr, hb⟩
  have BW2 := Lib.hid (BW1.out.trans (hb.mono BW1.out.size))
  have sz2 : Hid ((w.alloc (.cells #[.slice a0 len0 cap0, .slice b0 m0 d0] 42)).heap.size ≤ ws0.heap.size) := hb.size
  have XaS_2 := Lib.hid (XaS_1.out.below hb XaS_1.out.lt)
  clear hb
  rcases hr with rfl | ⟨h0, hr⟩
  · go_wp2_with fail
    go_ret
    exact ⟨rfl, BW2.out⟩
  have lb0 : 0 ≤ lf0 ∧ lf0 ≤ 1048576 := by omega
  have ls0 : lf0 + ((len0 : Int) + jtot z0 + m0) = (1048576 : Int) := by omega
  have HLS0 := Lib.hid ls0
  have lt0 : len0 + jtot z0 + m0 ≤ 1048576 := by omega
  clear ls0 hr
  have h00 := h0
  clear h0
  have Inz0 : Hid (InT w a0 len0 z0 b0 m0 y0) := ⟨Hz0.out.inJ (by omega), Hy0.out.inM (by omega)⟩
  have Ftz0 : Hid (TFit len0 z0 m0 y0) := ⟨Inz0.out.1.1, Inz0.out.2.1, Inz0.out.1.2.2.2, Inz0.out.2.2.2.2⟩
  have eaS0a : ws0.cell? ⟨w.heap.size, 0, none⟩ = some (.slice a0 len0 cap0) := XaS_2.out.cell 0
  have eaS1a : ws0.cell? ⟨w.heap.size, 1, none⟩ = some (.slice b0 m0 d0) := XaS_2.out.cell 1
  go_wp2_with fail
  clear eaS0a eaS1a
  refine (toStructure_any a0 len0 cap0 z0 b0 m0 d0 y0 _ (Inz0.out.below BW2.out)).mono ?_
  rintro e w1 ⟨At1, ct1, Bt1, dt1, rfl, ho, hb⟩
  have BW3 := Lib.hid (BW2.out.trans (hb.mono BW2.out.size))
  have sz3 : Hid (ws0.heap.size ≤ w1.heap.size) := hb.size
  have XaS_3 := Lib.hid (XaS_2.out.below hb XaS_2.out.lt)
  have Ut1 := Lib.hid ho.lt
  have Rt1_3 := Lib.hid ho.holds
  clear ho hb
  go_wp2_with fail
  refine (spec_squareOf At1 len0 ct1 z0 Bt1 m0 dt1 y0 a1 _ (tin Rt1_3 Ftz0 (by omega) (by omega)) Ba1).mono ?_
  rintro e w2 ⟨r1_0, rfl, his, hb⟩
  have BW4 := Lib.hid (BW3.out.trans (hb.mono BW3.out.size))
  have sz4 : Hid (w1.heap.size ≤ w2.heap.size) := hb.size
  have Rt1_4 := Lib.hid (Rt1_3.out.below hb)
  have XaS_4 := Lib.hid (XaS_3.out.below hb XaS_3.out.lt)
  have IS := Lib.hid his
  clear his
  clear hb
  clear Rt1_4 Ut1
  have eaS0a : w2.cell? ⟨w.heap.size, 0, none⟩ = some (.slice a0 len0 cap0) := XaS_4.out.cell 0
  have eaS1a : w2.cell? ⟨w.heap.size, 1, none⟩ = some (.slice b0 m0 d0) := XaS_4.out.cell 1
  go_wp2_with fail
  clear eaS0a eaS1a
  refine (toStructure_any a0 len0 cap0 z0 b0 m0 d0 y0 _ (Inz0.out.below BW4.out)).mono ?_
  rintro e w3 ⟨Ax0, cx0, Bx0, dx0, rfl, ho, hb⟩
  have BW5 := Lib.hid (BW4.out.trans (hb.mono BW4.out.size))
  have sz5 : Hid (w2.heap.size ≤ w3.heap.size) := hb.size
  have XaS_5 := Lib.hid (XaS_4.out.below hb XaS_4.out.lt)
  have Ux0 := Lib.hid ho.lt
  have Rx0_5 := Lib.hid ho.holds
  clear ho hb
  have BW6 := Lib.hid (BW5.out.alloc BW5.out.size (.cells #[.slice Ax0 len0 cx0, .slice Bx0 m0 dx0] 48))
  have sz6 : Hid (w3.heap.size + 1 ≤ (w3.alloc (.cells #[.slice Ax0 len0 cx0, .slice Bx0 m0 dx0] 48)).heap.size) := Lib.hid (by simp)
  have Rx0_6 := Lib.hid (Rx0_5.out.alloc (.cells #[.slice Ax0 len0 cx0, .slice Bx0 m0 dx0] 48))
  have XaS_6 := Lib.hid (XaS_5.out.alloc (.cells #[.slice Ax0 len0 cx0, .slice Bx0 m0 dx0] 48))
  have Xx0_6 := Lib.hid (Box.new w3 48 #[.slice Ax0 len0 cx0, .slice Bx0 m0 dx0])
  go_wp2_with fail
  refine (impl_squareOf Ax0 len0 cx0 z0 Bx0 m0 dx0 y0 a1 _ (tin Rx0_6 Ftz0 (by omega) (by omega)) Ba1).mono ?_
  rintro e w4 ⟨r2_0, rfl, his, hb⟩
  have BW7 := Lib.hid (BW6.out.trans (hb.mono BW6.out.size))
  have sz7 : Hid ((w3.alloc (.cells #[.slice Ax0 len0 cx0, .slice Bx0 m0 dx0] 48)).heap.size ≤ w4.heap.size) := hb.size
  have Rx0_7 := Lib.hid (Rx0_6.out.below hb)
  have XaS_7 := Lib.hid (XaS_6.out.below hb XaS_6.out.lt)
  have Xx0_7 := Lib.hid (Xx0_6.out.below hb Xx0_6.out.lt)
  obtain rfl := squareOf_unique IS.out his
  clear his
  clear hb
  go_wp2_with fail
  have BW8 := Lib.hid BW7.out.drew
  have sz8 : Hid (w4.heap.size ≤ w4.drew.heap.size) := Nat.le_refl _
  have Rx0_8 := Lib.hid Rx0_7.out.drew
  have XaS_8 := Lib.hid XaS_7.out.drew
  have Xx0_8 := Lib.hid Xx0_7.out.drew
  have cvx00 : Hid ((#[.slice Ax0 len0 cx0, .slice Bx0 m0 dx0] : Array Value)[0]? = some (.slice Ax0 len0 cx0)) := rfl
  have cvx01 : Hid ((#[.slice Ax0 len0 cx0, .slice Bx0 m0 dx0] : Array Value)[1]? = some (.slice Bx0 m0 dx0)) := rfl
  have cvaS0 : Hid ((#[.slice a0 len0 cap0, .slice b0 m0 d0] : Array Value)[0]? = some (.slice a0 len0 cap0)) := rfl
  have cvaS1 : Hid ((#[.slice a0 len0 cap0, .slice b0 m0 d0] : Array Value)[1]? = some (.slice b0 m0 d0)) := rfl
  go_region_held3 (fun w' => w'.cell? ⟨w3.heap.size, 0, none⟩ = some (.slice Ax0 len0 cx0) ∧ w'.cell? ⟨w3.heap.size, 1, none⟩ = some (.slice Bx0 m0 dx0) ∧ w'.cell? ⟨w.heap.size, 0, none⟩ = some (.slice a0 len0 cap0) ∧ w'.cell? ⟨w.heap.size, 1, none⟩ = some (.slice b0 m0 d0)) (first | with_reducible exact ⟨cellS Xx0_10 cvx00, cellS Xx0_10 cvx01, cellS XaS_10 cvaS0, cellS XaS_10 cvaS1⟩ | with_reducible exact ⟨cellS Xx0_9 cvx00, cellS Xx0_9 cvx01, cellS XaS_9 cvaS0, cellS XaS_9 cvaS1⟩ | with_reducible exact ⟨cellS Xx0_8 cvx00, cellS Xx0_8 cvx01, cellS XaS_8 cvaS0, cellS XaS_8 cvaS1⟩) (first | (go_at_call 31; refine (eqStructure_same Ax0 At2 len0 cx0 ct2 z0 Bx0 Bt2 m0 dx0 dt2 y0 _ (tin Rx0_9 Ftz0 (by omega) (by omega)) (tin Rt2_9 Ftz0 (by omega) (by omega))).mono ?_; rintro e w6 ⟨rfl, hb⟩; have BW10 := Lib.hid (BW9.out.trans (hb.mono BW9.out.size)); have sz10 : Hid (w5.heap.size ≤ w6.heap.size) := hb.size; have Rx0_10 := Lib.hid (Rx0_9.out.below hb); have Rt2_10 := Lib.hid (Rt2_9.out.below hb); have XaS_10 := Lib.hid (XaS_9.out.below hb XaS_9.out.lt); have Xx0_10 := Lib.hid (Xx0_9.out.below hb Xx0_9.out.lt); clear hb) | (go_at_call 29; refine (toStructure_any a0 len0 cap0 z0 b0 m0 d0 y0 _ (Inz0.out.below BW8.out)).mono ?_; rintro e w5 ⟨At2, ct2, Bt2, dt2, rfl, ho, hb⟩; have BW9 := Lib.hid (BW8.out.trans (hb.mono BW8.out.size)); have sz9 : Hid (w4.drew.heap.size ≤ w5.heap.size) := hb.size; have Rx0_9 := Lib.hid (Rx0_8.out.below hb); have XaS_9 := Lib.hid (XaS_8.out.below hb XaS_8.out.lt); have Xx0_9 := Lib.hid (Xx0_8.out.below hb Xx0_8.out.lt); have Ut2 := Lib.hid ho.lt; have Rt2_9 := Lib.hid ho.holds; clear ho hb))
  clear cvx00 cvx01 cvaS0 cvaS1
  clear Rx0_10 Ux0 Xx0_10
  clear Rt2_10 Ut2
  go_wp2_with fail
  go_ret
  exact ⟨rfl, BW10.out⟩
end Go.Proofs.Ytcmbfgaojlnjcaa.fnExactSquareOf
