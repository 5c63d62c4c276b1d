/- The walk of the law: for all arguments the law FnExactProgramOk returns true: the program's ProgramOk answers as the model's; no condition on them. -/
import Derived.Test.YtjohglkfcefimaaLpM
import Derived.Test.YtjohglkfcefimaaLpS
import Derived.Test.YtjohglkfcefimaaLpI2
import Derived.ProofKit
import Derived.OpenShut
import Derived.ShutString
import Derived.Lib.SmallJoins
namespace Go.Proofs.Ytjohglkfcefimaa.fnExactProgramOk
open Go.ChangeShapes Go.WideShapes Go.ChangeAt Go.RowKit Go.Joins Go.Deep
open Go.ChangeMaps (open_string shut_string)

set_option maxRecDepth 100000 in
set_option maxHeartbeats 16000000 in
theorem walk {w : World} (p0 : Int) (hp0 : (Lit.int .i64 p0).wf = true) (q0 : Int) (hq0 : (Lit.int .i64 q0).wf = true) (a0 : Option Addr) (len0 cap0 : Nat) (z0 : List Int) (hz0 : IsInts w a0 len0 z0) (b0 : Option Addr) (m0 d0 : Nat) (y0 : List Int) (hy0 : IsInts w b0 m0 y0) (ee0 : Option Addr) (ll0 ff0 : Nat) (yy0 : List Int) (hyy0 : IsInts w ee0 ll0 yy0) :
    Calls Try.prog 3 #[.agg #[.int .i64 p0, .int .i64 q0, .slice a0 len0 cap0, .slice b0 m0 d0, .slice ee0 ll0 ff0]] w fun e w' => e = .returned (.bool true) ∧ Below w.heap.size w w' := by
  have Bp0 := bounds_i64 hp0
  clear hp0
  have Bq0 := bounds_i64 hq0
  clear hq0
  have hmz0 : len0 ≤ maxLen := hz0.2.1
  have Hz0 := Lib.hid hz0
  clear hz0
  have hmy0 : m0 ≤ maxLen := hy0.2.1
  have Hy0 := Lib.hid hy0
  clear hy0
  have hmyy0 : ll0 ≤ maxLen := hyy0.2.1
  have Hyy0 := Lib.hid hyy0
  clear hyy0
  have BW0 : Hid (Below w.heap.size w w) := Below.refl _ _
  have BW1 := Lib.hid (BW0.out.alloc BW0.out.size (.cells #[.int .i64 p0, .int .i64 q0, .slice a0 len0 cap0, .slice b0 m0 d0, .slice ee0 ll0 ff0] 24))
  have sz1 : Hid (w.heap.size + 1 ≤ (w.alloc (.cells #[.int .i64 p0, .int .i64 q0, .slice a0 len0 cap0, .slice b0 m0 d0, .slice ee0 ll0 ff0] 24)).heap.size) := Lib.hid (by simp)
  have XaP_1 := Lib.hid (Box.new w 24 #[.int .i64 p0, .int .i64 q0, .slice a0 len0 cap0, .slice b0 m0 d0, .slice ee0 ll0 ff0])
  go_enter Try.func3, Try.ntmps3
  have eaP0a : (w.alloc (.cells #[.int .i64 p0, .int .i64 q0, .slice a0 len0 cap0, .slice b0 m0 d0, .slice ee0 ll0 ff0] 24)).cell? ⟨w.heap.size, 0, none⟩ = some (.int .i64 p0) := XaP_1.out.cell 0
  have eaP1a : (w.alloc (.cells #[.int .i64 p0, .int .i64 q0, .slice a0 len0 cap0, .slice b0 m0 d0, .slice ee0 ll0 ff0] 24)).cell? ⟨w.heap.size, 1, none⟩ = some (.int .i64 q0) := XaP_1.out.cell 1
  have eaP2a : (w.alloc (.cells #[.int .i64 p0, .int .i64 q0, .slice a0 len0 cap0, .slice b0 m0 d0, .slice ee0 ll0 ff0] 24)).cell? ⟨w.heap.size, 2, none⟩ = some (.slice a0 len0 cap0) := XaP_1.out.cell 2
  have eaP3a : (w.alloc (.cells #[.int .i64 p0, .int .i64 q0, .slice a0 len0 cap0, .slice b0 m0 d0, .slice ee0 ll0 ff0] 24)).cell? ⟨w.heap.size, 3, none⟩ = some (.slice b0 m0 d0) := XaP_1.out.cell 3
  have eaP4a : (w.alloc (.cells #[.int .i64 p0, .int .i64 q0, .slice a0 len0 cap0, .slice b0 m0 d0, .slice ee0 ll0 ff0] 24)).cell? ⟨w.heap.size, 4, none⟩ = some (.slice ee0 ll0 ff0) := XaP_1.out.cell 4
  go_wp2_with fail
  clear eaP0a eaP1a eaP2a eaP3a eaP4a
  refine (szProgram_any p0 q0 a0 len0 cap0 b0 m0 d0 ee0 ll0 ff0 (1048576 : Int) _ hmz0 hmy0 hmyy0 (by omega) (by omega)).mono ?_
  rintro e ws0 ⟨lf0, rfl, hr, hb⟩
  have BW2 := Lib.hid (BW1.out.trans (hb.mono BW1.out.size))
  have sz2 : Hid ((w.alloc (.cells #[.int .i64 p0, .int .i64 q0, .slice a0 len0 cap0, .slice b0 m0 d0, .slice ee0 ll0 ff0] 24)).heap.size ≤ ws0.heap.size) := hb.size
  have XaP_2 := Lib.hid (XaP_1.out.below hb XaP_1.out.lt)
  clear hb
  rcases hr with rfl | ⟨h0, hr⟩
  · go_wp2_with fail
    go_ret
    exact ⟨rfl, BW2.out⟩
  have lb0 : 0 ≤ lf0 ∧ lf0 ≤ 1048576 := by omega
  have ls0 : lf0 + ((len0 : Int) + m0 + ll0) = (1048576 : Int) := by omega
  have HLS0 := Lib.hid ls0
  have lt0 : len0 + m0 + ll0 ≤ 1048576 := by omega
  clear ls0 hr
  have h00 := h0
  clear h0
  have Inz0 : Hid (InP w a0 len0 z0 b0 m0 y0 ee0 ll0 yy0) := ⟨Hz0.out.inI (by omega), Hy0.out.inI (by omega), Hyy0.out.inI (by omega)⟩
  have eaP0a : ws0.cell? ⟨w.heap.size, 0, none⟩ = some (.int .i64 p0) := XaP_2.out.cell 0
  have eaP1a : ws0.cell? ⟨w.heap.size, 1, none⟩ = some (.int .i64 q0) := XaP_2.out.cell 1
  have eaP2a : ws0.cell? ⟨w.heap.size, 2, none⟩ = some (.slice a0 len0 cap0) := XaP_2.out.cell 2
  have eaP3a : ws0.cell? ⟨w.heap.size, 3, none⟩ = some (.slice b0 m0 d0) := XaP_2.out.cell 3
  have eaP4a : ws0.cell? ⟨w.heap.size, 4, none⟩ = some (.slice ee0 ll0 ff0) := XaP_2.out.cell 4
  go_wp2_with fail
  clear eaP0a eaP1a eaP2a eaP3a eaP4a
  refine (toProgram_any p0 q0 a0 len0 cap0 z0 b0 m0 d0 y0 ee0 ll0 ff0 yy0 _ (Inz0.out.below BW2.out)).mono ?_
  rintro e w1 ⟨At1, ct1, Bt1, dt1, Ct1, ft1, rfl, ho, hb⟩
  have BW3 := Lib.hid (BW2.out.trans (hb.mono BW2.out.size))
  have sz3 : Hid (ws0.heap.size ≤ w1.heap.size) := hb.size
  have XaP_3 := Lib.hid (XaP_2.out.below hb XaP_2.out.lt)
  have Ut1 := Lib.hid ho.lt
  have Rt1_3 := Lib.hid ho.holds
  have hcapt1 : len0 ≤ ct1 := own_le ho.1
  clear ho hb
  go_wp2_with fail
  refine (spec_programOk p0 q0 At1 len0 ct1 z0 Bt1 m0 dt1 y0 Ct1 ll0 ft1 yy0 _ (pin Rt1_3 Inz0) Bp0 Bq0 hcapt1).mono ?_
  rintro e w2 ⟨r1_0, rfl, his, hb⟩
  have BW4 := Lib.hid (BW3.out.trans (hb.mono BW3.out.size))
  have sz4 : Hid (w1.heap.size ≤ w2.heap.size) := hb.size
  have Rt1_4 := Lib.hid (Rt1_3.out.below hb)
  have XaP_4 := Lib.hid (XaP_3.out.below hb XaP_3.out.lt)
  have IS := Lib.hid his
  clear his
  clear hb
  clear Rt1_4 Ut1
  have eaP0a : w2.cell? ⟨w.heap.size, 0, none⟩ = some (.int .i64 p0) := XaP_4.out.cell 0
  have eaP1a : w2.cell? ⟨w.heap.size, 1, none⟩ = some (.int .i64 q0) := XaP_4.out.cell 1
  have eaP2a : w2.cell? ⟨w.heap.size, 2, none⟩ = some (.slice a0 len0 cap0) := XaP_4.out.cell 2
  have eaP3a : w2.cell? ⟨w.heap.size, 3, none⟩ = some (.slice b0 m0 d0) := XaP_4.out.cell 3
  have eaP4a : w2.cell? ⟨w.heap.size, 4, none⟩ = some (.slice ee0 ll0 ff0) := XaP_4.out.cell 4
  go_wp2_with fail
  clear eaP0a eaP1a eaP2a eaP3a eaP4a
  refine (toProgram_any p0 q0 a0 len0 cap0 z0 b0 m0 d0 y0 ee0 ll0 ff0 yy0 _ (Inz0.out.below BW4.out)).mono ?_
  rintro e w3 ⟨Ax0, cx0, Bx0, dx0, Cx0, fx0, rfl, ho, hb⟩
  have BW5 := Lib.hid (BW4.out.trans (hb.mono BW4.out.size))
  have sz5 : Hid (w2.heap.size ≤ w3.heap.size) := hb.size
  have XaP_5 := Lib.hid (XaP_4.out.below hb XaP_4.out.lt)
  have Ux0 := Lib.hid ho.lt
  have Rx0_5 := Lib.hid ho.holds
  have hcapx0 : len0 ≤ cx0 := own_le ho.1
  clear ho hb
  have BW6 := Lib.hid (BW5.out.alloc BW5.out.size (.cells #[.int .i64 p0, .int .i64 q0, .slice Ax0 len0 cx0, .slice Bx0 m0 dx0, .slice Cx0 ll0 fx0] 27))
  have sz6 : Hid (w3.heap.size + 1 ≤ (w3.alloc (.cells #[.int .i64 p0, .int .i64 q0, .slice Ax0 len0 cx0, .slice Bx0 m0 dx0, .slice Cx0 ll0 fx0] 27)).heap.size) := Lib.hid (by simp)
  have Rx0_6 := Lib.hid (Rx0_5.out.alloc (.cells #[.int .i64 p0, .int .i64 q0, .slice Ax0 len0 cx0, .slice Bx0 m0 dx0, .slice Cx0 ll0 fx0] 27))
  have XaP_6 := Lib.hid (XaP_5.out.alloc (.cells #[.int .i64 p0, .int .i64 q0, .slice Ax0 len0 cx0, .slice Bx0 m0 dx0, .slice Cx0 ll0 fx0] 27))
  have Xx0_6 := Lib.hid (Box.new w3 27 #[.int .i64 p0, .int .i64 q0, .slice Ax0 len0 cx0, .slice Bx0 m0 dx0, .slice Cx0 ll0 fx0])
  go_wp2_with fail
  refine (impl_programOk p0 q0 Ax0 len0 cx0 z0 Bx0 m0 dx0 y0 Cx0 ll0 fx0 yy0 _ (pin Rx0_6 Inz0) Bp0 Bq0 hcapx0).mono ?_
  rintro e w4 ⟨r2_0, rfl, his, hb⟩
  have BW7 := Lib.hid (BW6.out.trans (hb.mono BW6.out.size))
  have sz7 : Hid ((w3.alloc (.cells #[.int .i64 p0, .int .i64 q0, .slice Ax0 len0 cx0, .slice Bx0 m0 dx0, .slice Cx0 ll0 fx0] 27)).heap.size ≤ w4.heap.size) := hb.size
  have Rx0_7 := Lib.hid (Rx0_6.out.below hb)
  have XaP_7 := Lib.hid (XaP_6.out.below hb XaP_6.out.lt)
  have Xx0_7 := Lib.hid (Xx0_6.out.below hb Xx0_6.out.lt)
  obtain rfl := programOk_unique IS.out his
  clear his
  clear hb
  go_wp2_with fail
  have BW8 := Lib.hid BW7.out.drew
  have sz8 : Hid (w4.heap.size ≤ w4.drew.heap.size) := Nat.le_refl _
  have Rx0_8 := Lib.hid Rx0_7.out.drew
  have XaP_8 := Lib.hid XaP_7.out.drew
  have Xx0_8 := Lib.hid Xx0_7.out.drew
  have cvx00 : Hid ((#[.int .i64 p0, .int .i64 q0, .slice Ax0 len0 cx0, .slice Bx0 m0 dx0, .slice Cx0 ll0 fx0] : Array Value)[0]? = some (.int .i64 p0)) := rfl
  have cvx01 : Hid ((#[.int .i64 p0, .int .i64 q0, .slice Ax0 len0 cx0, .slice Bx0 m0 dx0, .slice Cx0 ll0 fx0] : Array Value)[1]? = some (.int .i64 q0)) := rfl
  have cvx02 : Hid ((#[.int .i64 p0, .int .i64 q0, .slice Ax0 len0 cx0, .slice Bx0 m0 dx0, .slice Cx0 ll0 fx0] : Array Value)[2]? = some (.slice Ax0 len0 cx0)) := rfl
  have cvx03 : Hid ((#[.int .i64 p0, .int .i64 q0, .slice Ax0 len0 cx0, .slice Bx0 m0 dx0, .slice Cx0 ll0 fx0] : Array Value)[3]? = some (.slice Bx0 m0 dx0)) := rfl
  have cvx04 : Hid ((#[.int .i64 p0, .int .i64 q0, .slice Ax0 len0 cx0, .slice Bx0 m0 dx0, .slice Cx0 ll0 fx0] : Array Value)[4]? = some (.slice Cx0 ll0 fx0)) := rfl
  have cvaP0 : Hid ((#[.int .i64 p0, .int .i64 q0, .slice a0 len0 cap0, .slice b0 m0 d0, .slice ee0 ll0 ff0] : Array Value)[0]? = some (.int .i64 p0)) := rfl
  have cvaP1 : Hid ((#[.int .i64 p0, .int .i64 q0, .slice a0 len0 cap0, .slice b0 m0 d0, .slice ee0 ll0 ff0] : Array Value)[1]? = some (.int .i64 q0)) := rfl
  have cvaP2 : Hid ((#[.int .i64 p0, .int .i64 q0, .slice a0 len0 cap0, .slice b0 m0 d0, .slice ee0 ll0 ff0] : Array Value)[2]? = some (.slice a0 len0 cap0)) := rfl
  have cvaP3 : Hid ((#[.int .i64 p0, .int .i64 q0, .slice a0 len0 cap0, .slice b0 m0 d0, .slice ee0 ll0 ff0] : Array Value)[3]? = some (.slice b0 m0 d0)) := rfl
  have cvaP4 : Hid ((#[.int .i64 p0, .int .i64 q0, .slice a0 len0 cap0, .slice b0 m0 d0, .slice ee0 ll0 ff0] : Array Value)[4]? = some (.slice ee0 ll0 ff0)) := rfl
  go_region_held3 (fun w' => w'.cell? ⟨w3.heap.size, 0, none⟩ = some (.int .i64 p0) ∧ w'.cell? ⟨w3.heap.size, 1, none⟩ = some (.int .i64 q0) ∧ w'.cell? ⟨w3.heap.size, 2, none⟩ = some (.slice Ax0 len0 cx0) ∧ w'.cell? ⟨w3.heap.size, 3, none⟩ = some (.slice Bx0 m0 dx0) ∧ w'.cell? ⟨w3.heap.size, 4, none⟩ = some (.slice Cx0 ll0 fx0) ∧ w'.cell? ⟨w.heap.size, 0, none⟩ = some (.int .i64 p0) ∧ w'.cell? ⟨w.heap.size, 1, none⟩ = some (.int .i64 q0) ∧ w'.cell? ⟨w.heap.size, 2, none⟩ = some (.slice a0 len0 cap0) ∧ w'.cell? ⟨w.heap.size, 3, none⟩ = some (.slice b0 m0 d0) ∧ w'.cell? ⟨w.heap.size, 4, none⟩ = some (.slice ee0 ll0 ff0)) (first | with_reducible exact ⟨cellS Xx0_10 cvx00, cellS Xx0_10 cvx01, cellS Xx0_10 cvx02, cellS Xx0_10 cvx03, cellS Xx0_10 cvx04, cellS XaP_10 cvaP0, cellS XaP_10 cvaP1, cellS XaP_10 cvaP2, cellS XaP_10 cvaP3, cellS XaP_10 cvaP4⟩ | with_reducible exact ⟨cellS Xx0_9 cvx00, cellS Xx0_9 cvx01, cellS Xx0_9 cvx02, cellS Xx0_9 cvx03, cellS Xx0_9 cvx04, cellS XaP_9 cvaP0, cellS XaP_9 cvaP1, cellS XaP_9 cvaP2, cellS XaP_9 cvaP3, cellS XaP_9 cvaP4⟩ | with_reducible exact ⟨cellS Xx0_8 cvx00, cellS Xx0_8 cvx01, cellS Xx0_8 cvx02, cellS Xx0_8 cvx03, cellS Xx0_8 cvx04, cellS XaP_8 cvaP0, cellS XaP_8 cvaP1, cellS XaP_8 cvaP2, cellS XaP_8 cvaP3, cellS XaP_8 cvaP4⟩) (first | (go_at_call 9; refine (eqProgram_same p0 q0 Ax0 At2 len0 cx0 ct2 z0 Bx0 Bt2 m0 dx0 dt2 y0 Cx0 Ct2 ll0 fx0 ft2 yy0 _ (pin Rx0_9 Inz0) (pin Rt2_9 Inz0)).mono ?_; rintro e w6 ⟨rfl, hb⟩; have BW10 := Lib.hid (BW9.out.trans (hb.mono BW9.out.size)); have sz10 : Hid (w5.heap.size ≤ w6.heap.size) := hb.size; have Rx0_10 := Lib.hid (Rx0_9.out.below hb); have Rt2_10 := Lib.hid (Rt2_9.out.below hb); have XaP_10 := Lib.hid (XaP_9.out.below hb XaP_9.out.lt); have Xx0_10 := Lib.hid (Xx0_9.out.below hb Xx0_9.out.lt); clear hb) | (go_at_call 7; refine (toProgram_any p0 q0 a0 len0 cap0 z0 b0 m0 d0 y0 ee0 ll0 ff0 yy0 _ (Inz0.out.below BW8.out)).mono ?_; rintro e w5 ⟨At2, ct2, Bt2, dt2, Ct2, ft2, rfl, ho, hb⟩; have BW9 := Lib.hid (BW8.out.trans (hb.mono BW8.out.size)); have sz9 : Hid (w4.drew.heap.size ≤ w5.heap.size) := hb.size; have Rx0_9 := Lib.hid (Rx0_8.out.below hb); have XaP_9 := Lib.hid (XaP_8.out.below hb XaP_8.out.lt); have Xx0_9 := Lib.hid (Xx0_8.out.below hb Xx0_8.out.lt); have Ut2 := Lib.hid ho.lt; have Rt2_9 := Lib.hid ho.holds; have hcapt2 : len0 ≤ ct2 := own_le ho.1; clear ho hb))
  clear cvx00 cvx01 cvx02 cvx03 cvx04 cvaP0 cvaP1 cvaP2 cvaP3 cvaP4
  clear Rx0_10 Ux0 Xx0_10
  clear Rt2_10 Ut2
  go_wp2_with fail
  go_ret
  exact ⟨rfl, BW10.out⟩
end Go.Proofs.Ytjohglkfcefimaa.fnExactProgramOk
