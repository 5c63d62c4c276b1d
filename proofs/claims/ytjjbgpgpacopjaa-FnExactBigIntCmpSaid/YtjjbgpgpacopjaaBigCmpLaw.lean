/- For all arguments the law FnExactBigIntCmp returns true: the program's BigIntCmp answers as the model's; no condition on them. -/
import Derived.Test.YtjjbgpgpacopjaaBigLaw
import Derived.Test.YtjjbgpgpacopjaaBigI4
import Derived.ProofKit
import Derived.OpenShut
import Derived.ShutString
import Derived.Lib.SmallJoins
namespace Go.Proofs.Ytjjbgpgpacopjaa.fnExactBigIntCmp
open Go.ChangeShapes Go.WideShapes Go.ChangeAt Go.RowKit Go.Joins Go.Deep
open Go.ChangeMaps (open_string shut_string)

set_option maxRecDepth 100000 in
set_option maxHeartbeats 3200000 in
theorem walk {w : World} (a0g : Bool) (a0m : Option Addr) (len0m cap0m : Nat) (z0m : List Int) (hz0m : IsInts w a0m len0m z0m) (a1g : Bool) (a1m : Option Addr) (len1m cap1m : Nat) (z1m : List Int) (hz1m : IsInts w a1m len1m z1m) :
    Calls Try.prog 10 #[.agg #[.bool a0g, .slice a0m len0m cap0m], .agg #[.bool a1g, .slice a1m len1m cap1m]] w fun e w' => e = .returned (.bool true) ∧ Below w.heap.size w w' := by
  have hmz0m : len0m ≤ maxLen := hz0m.2.1
  have Hz0m := Lib.hid hz0m
  clear hz0m
  have hmz1m : len1m ≤ maxLen := hz1m.2.1
  have Hz1m := Lib.hid hz1m
  clear hz1m
  unfold maxLen at hmz0m hmz1m
  have BW0 : Hid (Below w.heap.size w w) := Below.refl _ _
  have BW1 := Lib.hid (BW0.out.alloc BW0.out.size (.cells #[.bool a0g, .slice a0m len0m cap0m] 24))
  have XaX_1 := Lib.hid (by have := Box.new w 24 #[.bool a0g, .slice a0m len0m cap0m]; simpa using this : Box (w.alloc (.cells #[.bool a0g, .slice a0m len0m cap0m] 24)) (w.heap.size) 24 #[.bool a0g, .slice a0m len0m cap0m])
  have sz1 : w.heap.size ≤ (w.alloc (.cells #[.bool a0g, .slice a0m len0m cap0m] 24)).heap.size := (by simp)
  have BW2 := Lib.hid (BW1.out.alloc BW1.out.size (.cells #[.bool a1g, .slice a1m len1m cap1m] 24))
  have XaX_2 := Lib.hid (XaX_1.out.alloc (.cells #[.bool a1g, .slice a1m len1m cap1m] 24))
  have XaY_2 := Lib.hid (by have := Box.new (w.alloc (.cells #[.bool a0g, .slice a0m len0m cap0m] 24)) 24 #[.bool a1g, .slice a1m len1m cap1m]; simpa using this : Box ((w.alloc (.cells #[.bool a0g, .slice a0m len0m cap0m] 24)).alloc (.cells #[.bool a1g, .slice a1m len1m cap1m] 24)) (w.heap.size + 1) 24 #[.bool a1g, .slice a1m len1m cap1m])
  have sz2 : (w.alloc (.cells #[.bool a0g, .slice a0m len0m cap0m] 24)).heap.size ≤ ((w.alloc (.cells #[.bool a0g, .slice a0m len0m cap0m] 24)).alloc (.cells #[.bool a1g, .slice a1m len1m cap1m] 24)).heap.size := (by simp)
  by_cases bigs0 : (1048576 : Int) - (len0m : Int) < 0
  · go_enter Try.func10, Try.ntmps10
    go_wp2_with fail
    refine (szBigInt_neg a0g a0m len0m cap0m ((1048576 : Int)) _ (by omega) (by omega) (by unfold maxLen; omega) (by omega)).mono ?_
    rintro e ws0 ⟨rfl, hb⟩
    have BW3 := Lib.hid (BW2.out.trans (hb.mono BW2.out.size))
    have sz3 : ((w.alloc (.cells #[.bool a0g, .slice a0m len0m cap0m] 24)).alloc (.cells #[.bool a1g, .slice a1m len1m cap1m] 24)).heap.size ≤ ws0.heap.size := hb.size
    have XaX_3 := Lib.hid (XaX_2.out.below hb XaX_2.out.lt)
    have XaY_3 := Lib.hid (XaY_2.out.below hb XaY_2.out.lt)
    clear hb
    go_wp2_with fail
    go_ret
    exact ⟨rfl, BW3.out⟩
  by_cases bigs1 : (1048576 : Int) - (len0m : Int) - (len1m : Int) < 0
  · go_enter Try.func10, Try.ntmps10
    go_wp2_with fail
    refine (szBigInt_pos a0g a0m len0m cap0m ((1048576 : Int)) _ (by omega) (by omega)  (by omega)).mono ?_
    rintro e ws0 ⟨rfl, hb⟩
    have BW3 := Lib.hid (BW2.out.trans (hb.mono BW2.out.size))
    have sz3 : ((w.alloc (.cells #[.bool a0g, .slice a0m len0m cap0m] 24)).alloc (.cells #[.bool a1g, .slice a1m len1m cap1m] 24)).heap.size ≤ ws0.heap.size := hb.size
    have XaX_3 := Lib.hid (XaX_2.out.below hb XaX_2.out.lt)
    have XaY_3 := Lib.hid (XaY_2.out.below hb XaY_2.out.lt)
    clear hb
    have eaY0a : ws0.cell? ⟨w.heap.size + 1, 0, none⟩ = some (.bool a1g) := XaY_3.out.cell 0
    have eaY1a : ws0.cell? ⟨w.heap.size + 1, 1, none⟩ = some (.slice a1m len1m cap1m) := XaY_3.out.cell 1
    go_wp2_with fail
    clear eaY0a eaY1a
    refine (szBigInt_neg a1g a1m len1m cap1m ((1048576 : Int) - (len0m : Int)) _ (by omega) (by omega) (by unfold maxLen; omega) (by omega)).mono ?_
    rintro e ws1 ⟨rfl, hb⟩
    have BW4 := Lib.hid (BW3.out.trans (hb.mono BW3.out.size))
    have sz4 : ws0.heap.size ≤ ws1.heap.size := hb.size
    have XaX_4 := Lib.hid (XaX_3.out.below hb XaX_3.out.lt)
    have XaY_4 := Lib.hid (XaY_3.out.below hb XaY_3.out.lt)
    clear hb
    go_wp2_with fail
    go_ret
    exact ⟨rfl, BW4.out⟩
  have Inz0m : Hid (InI w a0m len0m z0m) := ⟨Hz0m.out.1, by omega, Hz0m.out.2.2.1, Hz0m.out.2.2.2⟩
  have Inz1m : Hid (InI w a1m len1m z1m) := ⟨Hz1m.out.1, by omega, Hz1m.out.2.2.1, Hz1m.out.2.2.2⟩
  go_enter Try.func10, Try.ntmps10
  go_wp2_with fail
  refine (szBigInt_pos a0g a0m len0m cap0m ((1048576 : Int)) _ (by omega) (by omega)  (by omega)).mono ?_
  rintro e ws0 ⟨rfl, hb⟩
  have BW3 := Lib.hid (BW2.out.trans (hb.mono BW2.out.size))
  have sz3 : ((w.alloc (.cells #[.bool a0g, .slice a0m len0m cap0m] 24)).alloc (.cells #[.bool a1g, .slice a1m len1m cap1m] 24)).heap.size ≤ ws0.heap.size := hb.size
  have XaX_3 := Lib.hid (XaX_2.out.below hb XaX_2.out.lt)
  have XaY_3 := Lib.hid (XaY_2.out.below hb XaY_2.out.lt)
  clear hb
  have eaY0a : ws0.cell? ⟨w.heap.size + 1, 0, none⟩ = some (.bool a1g) := XaY_3.out.cell 0
  have eaY1a : ws0.cell? ⟨w.heap.size + 1, 1, none⟩ = some (.slice a1m len1m cap1m) := XaY_3.out.cell 1
  go_wp2_with fail
  clear eaY0a eaY1a
  refine (szBigInt_pos a1g a1m len1m cap1m ((1048576 : Int) - (len0m : Int)) _ (by omega) (by omega)  (by omega)).mono ?_
  rintro e ws1 ⟨rfl, hb⟩
  have BW4 := Lib.hid (BW3.out.trans (hb.mono BW3.out.size))
  have sz4 : ws0.heap.size ≤ ws1.heap.size := hb.size
  have XaX_4 := Lib.hid (XaX_3.out.below hb XaX_3.out.lt)
  have XaY_4 := Lib.hid (XaY_3.out.below hb XaY_3.out.lt)
  clear hb
  go_wp2_with fail
  have BW5 := Lib.hid BW4.out.drew
  have sz5 : ws1.heap.size ≤ ws1.drew.heap.size := Nat.le_refl _
  have XaX_5 := Lib.hid XaX_4.out.drew
  have XaY_5 := Lib.hid XaY_4.out.drew
  go_region_held3 (fun w' => w'.cell? ⟨w.heap.size, 0, none⟩ = some (.bool a0g) ∧ w'.cell? ⟨w.heap.size, 1, none⟩ = some (.slice a0m len0m cap0m) ∧ w'.cell? ⟨w.heap.size + 1, 0, none⟩ = some (.bool a1g) ∧ w'.cell? ⟨w.heap.size + 1, 1, none⟩ = some (.slice a1m len1m cap1m)) (first | exact ⟨XaX_5.out.cell 0, XaX_5.out.cell 1, XaY_5.out.cell 0, XaY_5.out.cell 1⟩ | exact ⟨XaX_6.out.cell 0, XaX_6.out.cell 1, XaY_6.out.cell 0, XaY_6.out.cell 1⟩ | exact ⟨XaX_7.out.cell 0, XaX_7.out.cell 1, XaY_7.out.cell 0, XaY_7.out.cell 1⟩ | exact ⟨XaX_8.out.cell 0, XaX_8.out.cell 1, XaY_8.out.cell 0, XaY_8.out.cell 1⟩ | exact ⟨(XaX_8.out.alloc _).cell 0, (XaX_8.out.alloc _).cell 1, (XaY_8.out.alloc _).cell 0, (XaY_8.out.alloc _).cell 1⟩) (first | (go_at_call 32; refine (spec_bigIntCmp a0g At1m len0m ct1m z0m a1g At2m len1m ct2m z1m _ (Inz0m.out.own Ot1m_7.out) (room_own Ot1m_7.out) (Inz1m.out.own Ot2m_7.out) (room_own Ot2m_7.out)).mono ?_; rintro e w3 ⟨r1_00, rfl, his, hb⟩; have BW8 := Lib.hid (BW7.out.trans (hb.mono BW7.out.size)); have sz8 : w2.heap.size ≤ w3.heap.size := hb.size; have Ot1m_8 := Lib.hid (own_below Ot1m_7.out hb); have Ot2m_8 := Lib.hid (own_below Ot2m_7.out hb); have XaX_8 := Lib.hid (XaX_7.out.below hb XaX_7.out.lt); have XaY_8 := Lib.hid (XaY_7.out.below hb XaY_7.out.lt); clear hb; have IS := Lib.hid his; clear his; clear Ot1m_8 Ut1m; clear Ot2m_8 Ut2m) | (go_at_call 15; (with_reducible refine (toBigInt_any a1g a1m len1m cap1m z1m _ Inz1m.out.len Inz1m.out.le (Inz1m.out.rd.below BW6.out)).mono ?_); rintro e w2 ⟨v0, rfl, ho0, hb⟩; have BW7 := Lib.hid (BW6.out.trans (hb.mono BW6.out.size)); have sz7 : w1.heap.size ≤ w2.heap.size := hb.size; have Ot1m_7 := Lib.hid (own_below Ot1m_6.out hb); have XaX_7 := Lib.hid (XaX_6.out.below hb XaX_6.out.lt); have XaY_7 := Lib.hid (XaY_6.out.below hb XaY_6.out.lt); obtain ⟨At2m, ct2m, rfl⟩ := own_slice ho0; have Ut2m := Lib.hid (fun k (hk : (Value.slice At2m len1m ct2m).ownBlock = some k) => (ho0.lt k hk).2); have Ot2m_7 := Lib.hid ho0; clear ho0; clear hb) | (go_at_call 15; (with_reducible refine (toBigInt_any a0g a0m len0m cap0m z0m _ Inz0m.out.len Inz0m.out.le (Inz0m.out.rd.below BW5.out)).mono ?_); rintro e w1 ⟨v0, rfl, ho0, hb⟩; have BW6 := Lib.hid (BW5.out.trans (hb.mono BW5.out.size)); have sz6 : ws1.drew.heap.size ≤ w1.heap.size := hb.size; have XaX_6 := Lib.hid (XaX_5.out.below hb XaX_5.out.lt); have XaY_6 := Lib.hid (XaY_5.out.below hb XaY_5.out.lt); obtain ⟨At1m, ct1m, rfl⟩ := own_slice ho0; have Ut1m := Lib.hid (fun k (hk : (Value.slice At1m len0m ct1m).ownBlock = some k) => (ho0.lt k hk).2); have Ot1m_6 := Lib.hid ho0; clear ho0; clear hb))
  have eaX0a : w3.cell? ⟨w.heap.size, 0, none⟩ = some (.bool a0g) := XaX_8.out.cell 0
  have eaX1a : w3.cell? ⟨w.heap.size, 1, none⟩ = some (.slice a0m len0m cap0m) := XaX_8.out.cell 1
  go_wp2_with fail
  clear eaX0a eaX1a
  refine (toBigInt_any a0g a0m len0m cap0m z0m _ Inz0m.out.len Inz0m.out.le (Inz0m.out.rd.below BW8.out)).mono ?_
  rintro e w4 ⟨v0, rfl, ho0, hb⟩
  have BW9 := Lib.hid (BW8.out.trans (hb.mono BW8.out.size))
  have sz9 : w3.heap.size ≤ w4.heap.size := hb.size
  have XaX_9 := Lib.hid (XaX_8.out.below hb XaX_8.out.lt)
  have XaY_9 := Lib.hid (XaY_8.out.below hb XaY_8.out.lt)
  obtain ⟨Ax0m, cx0m, rfl⟩ := own_slice ho0
  have Ux0m := Lib.hid (fun k (hk : (Value.slice Ax0m len0m cx0m).ownBlock = some k) => (ho0.lt k hk).2)
  have Ox0m_9 := Lib.hid ho0
  clear ho0
  clear hb
  have BW10 := Lib.hid (BW9.out.alloc BW9.out.size (.cells #[.bool a0g, .slice Ax0m len0m cx0m] 27))
  have sz10 : w4.heap.size ≤ (w4.alloc (.cells #[.bool a0g, .slice Ax0m len0m cx0m] 27)).heap.size := (by simp)
  have Ox0m_10 := Lib.hid (Ox0m_9.out.alloc (.cells #[.bool a0g, .slice Ax0m len0m cx0m] 27))
  have XaX_10 := Lib.hid (XaX_9.out.alloc (.cells #[.bool a0g, .slice Ax0m len0m cx0m] 27))
  have XaY_10 := Lib.hid (XaY_9.out.alloc (.cells #[.bool a0g, .slice Ax0m len0m cx0m] 27))
  have Xx0_10 := Lib.hid (Box.new w4 27 #[.bool a0g, .slice Ax0m len0m cx0m])
  have eaY0a : w4.cell? ⟨w.heap.size + 1, 0, none⟩ = some (.bool a1g) := XaY_9.out.cell 0
  have eaY1a : w4.cell? ⟨w.heap.size + 1, 1, none⟩ = some (.slice a1m len1m cap1m) := XaY_9.out.cell 1
  have eaY0b : (w4.alloc (.cells #[.bool a0g, .slice Ax0m len0m cx0m] 27)).cell? ⟨w.heap.size + 1, 0, none⟩ = some (.bool a1g) := XaY_10.out.cell 0
  have eaY1b : (w4.alloc (.cells #[.bool a0g, .slice Ax0m len0m cx0m] 27)).cell? ⟨w.heap.size + 1, 1, none⟩ = some (.slice a1m len1m cap1m) := XaY_10.out.cell 1
  have neaY0 : w4.heap.size ≠ w.heap.size + 1 := (by have := XaY_9.out.lt; omega)
  go_wp2_with fail
  clear eaY0a eaY1a eaY0b eaY1b neaY0
  refine (toBigInt_any a1g a1m len1m cap1m z1m _ Inz1m.out.len Inz1m.out.le (Inz1m.out.rd.below BW10.out)).mono ?_
  rintro e w5 ⟨v0, rfl, ho0, hb⟩
  have BW11 := Lib.hid (BW10.out.trans (hb.mono BW10.out.size))
  have sz11 : (w4.alloc (.cells #[.bool a0g, .slice Ax0m len0m cx0m] 27)).heap.size ≤ w5.heap.size := hb.size
  have Ox0m_11 := Lib.hid (own_below Ox0m_10.out hb)
  have XaX_11 := Lib.hid (XaX_10.out.below hb XaX_10.out.lt)
  have XaY_11 := Lib.hid (XaY_10.out.below hb XaY_10.out.lt)
  have Xx0_11 := Lib.hid (Xx0_10.out.below hb Xx0_10.out.lt)
  obtain ⟨Ax1m, cx1m, rfl⟩ := own_slice ho0
  have Ux1m := Lib.hid (fun k (hk : (Value.slice Ax1m len1m cx1m).ownBlock = some k) => (ho0.lt k hk).2)
  have Ox1m_11 := Lib.hid ho0
  clear ho0
  clear hb
  have BW12 := Lib.hid (BW11.out.alloc BW11.out.size (.cells #[.bool a1g, .slice Ax1m len1m cx1m] 27))
  have sz12 : w5.heap.size ≤ (w5.alloc (.cells #[.bool a1g, .slice Ax1m len1m cx1m] 27)).heap.size := (by simp)
  have Ox0m_12 := Lib.hid (Ox0m_11.out.alloc (.cells #[.bool a1g, .slice Ax1m len1m cx1m] 27))
  have Ox1m_12 := Lib.hid (Ox1m_11.out.alloc (.cells #[.bool a1g, .slice Ax1m len1m cx1m] 27))
  have XaX_12 := Lib.hid (XaX_11.out.alloc (.cells #[.bool a1g, .slice Ax1m len1m cx1m] 27))
  have XaY_12 := Lib.hid (XaY_11.out.alloc (.cells #[.bool a1g, .slice Ax1m len1m cx1m] 27))
  have Xx0_12 := Lib.hid (Xx0_11.out.alloc (.cells #[.bool a1g, .slice Ax1m len1m cx1m] 27))
  have Xx1_12 := Lib.hid (Box.new w5 27 #[.bool a1g, .slice Ax1m len1m cx1m])
  have ex00a : w5.cell? ⟨w4.heap.size, 0, none⟩ = some (.bool a0g) := Xx0_11.out.cell 0
  have ex01a : w5.cell? ⟨w4.heap.size, 1, none⟩ = some (.slice Ax0m len0m cx0m) := Xx0_11.out.cell 1
  have ex00b : (w5.alloc (.cells #[.bool a1g, .slice Ax1m len1m cx1m] 27)).cell? ⟨w4.heap.size, 0, none⟩ = some (.bool a0g) := Xx0_12.out.cell 0
  have ex01b : (w5.alloc (.cells #[.bool a1g, .slice Ax1m len1m cx1m] 27)).cell? ⟨w4.heap.size, 1, none⟩ = some (.slice Ax0m len0m cx0m) := Xx0_12.out.cell 1
  have nex00 : w5.heap.size ≠ w4.heap.size := (by have := Xx0_11.out.lt; omega)
  go_wp2_with fail
  clear ex00a ex01a ex00b ex01b nex00
  refine (impl_bigIntCmp a0g Ax0m len0m cx0m z0m a1g Ax1m len1m cx1m z1m _ (Inz0m.out.own Ox0m_12.out) (room_own Ox0m_12.out) (Inz1m.out.own Ox1m_12.out) (room_own Ox1m_12.out)).mono ?_
  rintro e w6 ⟨r2_00, rfl, his, hb⟩
  have BW13 := Lib.hid (BW12.out.trans (hb.mono BW12.out.size))
  have sz13 : (w5.alloc (.cells #[.bool a1g, .slice Ax1m len1m cx1m] 27)).heap.size ≤ w6.heap.size := hb.size
  have Ox0m_13 := Lib.hid (own_below Ox0m_12.out hb)
  have Ox1m_13 := Lib.hid (own_below Ox1m_12.out hb)
  have XaX_13 := Lib.hid (XaX_12.out.below hb XaX_12.out.lt)
  have XaY_13 := Lib.hid (XaY_12.out.below hb XaY_12.out.lt)
  have Xx0_13 := Lib.hid (Xx0_12.out.below hb Xx0_12.out.lt)
  have Xx1_13 := Lib.hid (Xx1_12.out.below hb Xx1_12.out.lt)
  clear hb
  obtain rfl := bigIntCmp_unique IS.out his
  clear his
  go_wp2_with fail
  have BW14 := Lib.hid BW13.out.drew
  have sz14 : w6.heap.size ≤ w6.drew.heap.size := Nat.le_refl _
  have Ox0m_14 := Lib.hid (own_drew Ox0m_13.out)
  have Ox1m_14 := Lib.hid (own_drew Ox1m_13.out)
  have XaX_14 := Lib.hid XaX_13.out.drew
  have XaY_14 := Lib.hid XaY_13.out.drew
  have Xx0_14 := Lib.hid Xx0_13.out.drew
  have Xx1_14 := Lib.hid Xx1_13.out.drew
  go_region_held3 (fun w' => w'.cell? ⟨w4.heap.size, 0, none⟩ = some (.bool a0g) ∧ w'.cell? ⟨w4.heap.size, 1, none⟩ = some (.slice Ax0m len0m cx0m) ∧ w'.cell? ⟨w.heap.size, 0, none⟩ = some (.bool a0g) ∧ w'.cell? ⟨w.heap.size, 1, none⟩ = some (.slice a0m len0m cap0m)) (first | exact ⟨Xx0_14.out.cell 0, Xx0_14.out.cell 1, XaX_14.out.cell 0, XaX_14.out.cell 1⟩ | exact ⟨Xx0_15.out.cell 0, Xx0_15.out.cell 1, XaX_15.out.cell 0, XaX_15.out.cell 1⟩ | exact ⟨Xx0_16.out.cell 0, Xx0_16.out.cell 1, XaX_16.out.cell 0, XaX_16.out.cell 1⟩) (first | (go_at_call 17; refine (eqBigInt_same a0g Ax0m At3m len0m cx0m ct3m z0m _ Inz0m.out.len (by unfold maxLen; omega) (Reads.of_own Ox0m_15.out) (Reads.of_own Ot3m_15.out)).mono ?_; rintro e w8 ⟨rfl, hb⟩; have BW16 := Lib.hid (BW15.out.trans (hb.mono BW15.out.size)); have sz16 : w7.heap.size ≤ w8.heap.size := hb.size; have Ox0m_16 := Lib.hid (own_below Ox0m_15.out hb); have Ox1m_16 := Lib.hid (own_below Ox1m_15.out hb); have Ot3m_16 := Lib.hid (own_below Ot3m_15.out hb); have XaX_16 := Lib.hid (XaX_15.out.below hb XaX_15.out.lt); have XaY_16 := Lib.hid (XaY_15.out.below hb XaY_15.out.lt); have Xx0_16 := Lib.hid (Xx0_15.out.below hb Xx0_15.out.lt); have Xx1_16 := Lib.hid (Xx1_15.out.below hb Xx1_15.out.lt); clear hb) | (go_at_call 15; refine (toBigInt_any a0g a0m len0m cap0m z0m _ Inz0m.out.len Inz0m.out.le (Inz0m.out.rd.below BW14.out)).mono ?_; rintro e w7 ⟨v0, rfl, ho0, hb⟩; have BW15 := Lib.hid (BW14.out.trans (hb.mono BW14.out.size)); have sz15 : w6.drew.heap.size ≤ w7.heap.size := hb.size; have Ox0m_15 := Lib.hid (own_below Ox0m_14.out hb); have Ox1m_15 := Lib.hid (own_below Ox1m_14.out hb); have XaX_15 := Lib.hid (XaX_14.out.below hb XaX_14.out.lt); have XaY_15 := Lib.hid (XaY_14.out.below hb XaY_14.out.lt); have Xx0_15 := Lib.hid (Xx0_14.out.below hb Xx0_14.out.lt); have Xx1_15 := Lib.hid (Xx1_14.out.below hb Xx1_14.out.lt); obtain ⟨At3m, ct3m, rfl⟩ := own_slice ho0; have Ut3m := Lib.hid (fun k (hk : (Value.slice At3m len0m ct3m).ownBlock = some k) => (ho0.lt k hk).2); have Ot3m_15 := Lib.hid ho0; clear ho0; clear hb))
  clear Ox0m_16 Ux0m Xx0_16
  clear Ot3m_16 Ut3m
  go_wp2_with fail
  have BW17 := Lib.hid BW16.out.drew
  have sz17 : w8.heap.size ≤ w8.drew.heap.size := Nat.le_refl _
  have Ox1m_17 := Lib.hid (own_drew Ox1m_16.out)
  have XaX_17 := Lib.hid XaX_16.out.drew
  have XaY_17 := Lib.hid XaY_16.out.drew
  have Xx1_17 := Lib.hid Xx1_16.out.drew
  go_region_held3 (fun w' => w'.cell? ⟨w5.heap.size, 0, none⟩ = some (.bool a1g) ∧ w'.cell? ⟨w5.heap.size, 1, none⟩ = some (.slice Ax1m len1m cx1m) ∧ w'.cell? ⟨w.heap.size + 1, 0, none⟩ = some (.bool a1g) ∧ w'.cell? ⟨w.heap.size + 1, 1, none⟩ = some (.slice a1m len1m cap1m)) (first | exact ⟨Xx1_17.out.cell 0, Xx1_17.out.cell 1, XaY_17.out.cell 0, XaY_17.out.cell 1⟩ | exact ⟨Xx1_18.out.cell 0, Xx1_18.out.cell 1, XaY_18.out.cell 0, XaY_18.out.cell 1⟩ | exact ⟨Xx1_19.out.cell 0, Xx1_19.out.cell 1, XaY_19.out.cell 0, XaY_19.out.cell 1⟩) (first | (go_at_call 17; refine (eqBigInt_same a1g Ax1m At4m len1m cx1m ct4m z1m _ Inz1m.out.len (by unfold maxLen; omega) (Reads.of_own Ox1m_18.out) (Reads.of_own Ot4m_18.out)).mono ?_; rintro e w10 ⟨rfl, hb⟩; have BW19 := Lib.hid (BW18.out.trans (hb.mono BW18.out.size)); have sz19 : w9.heap.size ≤ w10.heap.size := hb.size; have Ox1m_19 := Lib.hid (own_below Ox1m_18.out hb); have Ot4m_19 := Lib.hid (own_below Ot4m_18.out hb); have XaX_19 := Lib.hid (XaX_18.out.below hb XaX_18.out.lt); have XaY_19 := Lib.hid (XaY_18.out.below hb XaY_18.out.lt); have Xx1_19 := Lib.hid (Xx1_18.out.below hb Xx1_18.out.lt); clear hb) | (go_at_call 15; refine (toBigInt_any a1g a1m len1m cap1m z1m _ Inz1m.out.len Inz1m.out.le (Inz1m.out.rd.below BW17.out)).mono ?_; rintro e w9 ⟨v0, rfl, ho0, hb⟩; have BW18 := Lib.hid (BW17.out.trans (hb.mono BW17.out.size)); have sz18 : w8.drew.heap.size ≤ w9.heap.size := hb.size; have Ox1m_18 := Lib.hid (own_below Ox1m_17.out hb); have XaX_18 := Lib.hid (XaX_17.out.below hb XaX_17.out.lt); have XaY_18 := Lib.hid (XaY_17.out.below hb XaY_17.out.lt); have Xx1_18 := Lib.hid (Xx1_17.out.below hb Xx1_17.out.lt); obtain ⟨At4m, ct4m, rfl⟩ := own_slice ho0; have Ut4m := Lib.hid (fun k (hk : (Value.slice At4m len1m ct4m).ownBlock = some k) => (ho0.lt k hk).2); have Ot4m_18 := Lib.hid ho0; clear ho0; clear hb))
  clear Ox1m_19 Ux1m Xx1_19
  clear Ot4m_19 Ut4m
  go_wp2_with fail
  go_ret
  exact ⟨rfl, BW19.out⟩
-- THE FRAME, by wip/tools/frame.py
theorem own : ownKnob Try.prog.godebug = none := by kernel_rfl
theorem laidOut : laidOutB Try.prog = true := by kernel_rfl

set_option maxRecDepth 100000 in
theorem lifted (os : Os) (started : os.Started) (H : Type) (enc : TypeId × Value → H) :
    ReturnsInHanded {} Try.checked os 10 .any (Rows.fnExactBigIntCmpSpec.pre6 enc Try.prog Try.f10 Rows.fnExactBigIntCmpRow.domain false) (Rows.fnExactBigIntCmpSpec.post enc Try.prog Try.f10 false true false false) := by
  refine returnsInHanded_of_change (C := Try.checked) own started (by kernel_rfl) Try.func10
    (ChangeSpec.witness6 (enc := enc) (C := Try.checked) false ⟨#[], #[.agg #[.bool false, .slice none 0 0], .agg #[.bool false, .slice none 0 0]], []⟩ 8 (by kernel_rfl) (by kernel_rfl) (by kernel_rfl) (by kernel_rfl)) ?_
  intro W base args ds gs before hval0 hW _ _
  have hval : ∀ (j : Nat) t v, Try.f10.params[j]? = some t → args[j]? = some v → Value.okWide Try.prog W .any base t v := hval0
  have hW' := hW
  obtain ⟨p, q, hA0, hV, rfl, _, _⟩ := hW
  have hA : DataW.TrodAll enc Try.prog W 0 (fun _ => true) true Try.f10.params.toList args.toList ds p := hA0
  rw [Try.params10] at hA hval
  obtain ⟨v0, vs0, d0, ds0, p0, q0, hargs, rfl, rfl, h0, r0⟩ := trodAll_cons hA
  obtain ⟨v1, vs1, d1, ds1, p1, q1, rfl, rfl, rfl, h1, r1⟩ := trodAll_cons r0
  obtain ⟨rfl, rfl, rfl⟩ := trodAll_nil r1
  obtain rfl : args = #[v0, v1] := by cases args; simp_all
  obtain ⟨rfl, rfl⟩ := trodVars_none hV
  have k0 := h0
  have lt0 : ∀ x ∈ p0, x.block < W.heap.size := by obtain ⟨m, hm⟩ := k0; exact DataW.trod_lt m _ _ _ hm
  obtain ⟨g0, a0, len0, cap0, z0, rfl, w0⟩ := open_big (e := 3) Try.underlying24 (by kernel_rfl) (by kernel_rfl) Try.underlying4 Try.underlying22 Try.underlying3 (by kernel_rfl) (hval 0 24 v0 rfl rfl) h0
  have k1 := h1
  have lt1 : ∀ x ∈ p1, x.block < W.heap.size := by obtain ⟨m, hm⟩ := k1; exact DataW.trod_lt m _ _ _ hm
  obtain ⟨g1, a1, len1, cap1, z1, rfl, w1⟩ := open_big (e := 3) Try.underlying24 (by kernel_rfl) (by kernel_rfl) Try.underlying4 Try.underlying22 Try.underlying3 (by kernel_rfl) (hval 1 24 v1 rfl rfl) h1
  clear hA0 hval0
  refine (walk (w := W) g0 a0 len0 cap0 z0 w0 g1 a1 len1 cap1 z1 w1).mono fun e W' ⟨he, bel⟩ => ?_
  subst he
  exact ⟨_, rfl, _, _, _, [], _, [], hW', trodAll_mk1 (shut_bool Try.underlying4 _), (trodAll_cons_mk (Below.trod laidOut (by kernel_rfl) (of_decide_eq_true (by kernel_rfl)) k0 bel lt0) (trodAll_cons_mk (Below.trod laidOut (by kernel_rfl) (of_decide_eq_true (by kernel_rfl)) k1 bel lt1) trodAll_mk0)), rfl, bel.frame _, fun h => by cases h⟩

theorem over : Rows.fnExactBigIntCmpRow.holds Try.pinned (OpenSpec.ofChange Rows.fnExactBigIntCmpSpec) :=
  OpenClaim.holds_of_wide 10 Try.f10 rfl rfl rfl rfl rfl rfl rfl ⟨rfl, rfl, rfl, rfl, rfl⟩ rfl rfl rfl rfl rfl (by kernel_rfl) Try.func10 (by kernel_rfl)
    (of_decide_eq_true (by kernel_rfl)) (by unfold Func.isWrapper; rw [if_neg (of_decide_eq_false (by kernel_rfl))]; exact ⟨rfl, rfl⟩)
    (fun os started H enc _ => lifted os started H enc)

theorem proved : Rows.FnExactBigIntCmpSaid := over
end Go.Proofs.Ytjjbgpgpacopjaa.fnExactBigIntCmp
