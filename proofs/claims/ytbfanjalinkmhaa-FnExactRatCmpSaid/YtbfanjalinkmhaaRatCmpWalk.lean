/- The walk of the law: for all arguments the law FnExactRatCmp returns true: the program's RatCmp answers as the model's; no condition on them. -/
import Derived.Test.YtbfanjalinkmhaaRatLaw
import Derived.Test.YtbfanjalinkmhaaRatS7
import Derived.ProofKit
import Derived.OpenShut
import Derived.ShutString
import Derived.Lib.SmallJoins
namespace Go.Proofs.Ytbfanjalinkmhaa.fnExactRatCmp
set_option maxRecDepth 100000
open Go.ChangeShapes Go.WideShapes Go.ChangeAt Go.RowKit Go.Joins Go.Deep
open Go.ChangeMaps (open_string shut_string)

set_option maxRecDepth 100000 in
set_option maxHeartbeats 16000000 in
theorem walk {w : World} (a0g : Bool) (a0m : Option Addr) (len0m cap0m : Nat) (z0m : List Int) (hz0m : IsInts w a0m len0m z0m) (a0d : Option Addr) (len0d cap0d : Nat) (z0d : List Int) (hz0d : IsInts w a0d len0d z0d) (a1g : Bool) (a1m : Option Addr) (len1m cap1m : Nat) (z1m : List Int) (hz1m : IsInts w a1m len1m z1m) (a1d : Option Addr) (len1d cap1d : Nat) (z1d : List Int) (hz1d : IsInts w a1d len1d z1d) :
    Calls Try.prog 12 #[.agg #[.bool a0g, .slice a0m len0m cap0m, .slice a0d len0d cap0d], .agg #[.bool a1g, .slice a1m len1m cap1m, .slice a1d len1d cap1d]] w fun e w' => e = .returned (.bool true) ∧ Below w.heap.size w w' := by
  have hmz0m : len0m ≤ maxLen := hz0m.2.1
  have Hz0m := Lib.hid hz0m
  clear hz0m
  have hmz0d : len0d ≤ maxLen := hz0d.2.1
  have Hz0d := Lib.hid hz0d
  clear hz0d
  have hmz1m : len1m ≤ maxLen := hz1m.2.1
  have Hz1m := Lib.hid hz1m
  clear hz1m
  have hmz1d : len1d ≤ maxLen := hz1d.2.1
  have Hz1d := Lib.hid hz1d
  clear hz1d
  unfold maxLen at hmz0m hmz0d hmz1m hmz1d
  have BW0 : Hid (Below w.heap.size w w) := Below.refl _ _
  have BW1 := Lib.hid (BW0.out.alloc BW0.out.size (.cells #[.bool a0g, .slice a0m len0m cap0m, .slice a0d len0d cap0d] 26))
  have XaR_1 := Lib.hid (by have := Box.new w 26 #[.bool a0g, .slice a0m len0m cap0m, .slice a0d len0d cap0d]; simpa using this : Box (w.alloc (.cells #[.bool a0g, .slice a0m len0m cap0m, .slice a0d len0d cap0d] 26)) (w.heap.size) 26 #[.bool a0g, .slice a0m len0m cap0m, .slice a0d len0d cap0d])
  have sz1 : w.heap.size ≤ (w.alloc (.cells #[.bool a0g, .slice a0m len0m cap0m, .slice a0d len0d cap0d] 26)).heap.size := (by simp)
  have BW2 := Lib.hid (BW1.out.alloc BW1.out.size (.cells #[.bool a1g, .slice a1m len1m cap1m, .slice a1d len1d cap1d] 26))
  have XaR_2 := Lib.hid (XaR_1.out.alloc (.cells #[.bool a1g, .slice a1m len1m cap1m, .slice a1d len1d cap1d] 26))
  have XaS_2 := Lib.hid (by have := Box.new (w.alloc (.cells #[.bool a0g, .slice a0m len0m cap0m, .slice a0d len0d cap0d] 26)) 26 #[.bool a1g, .slice a1m len1m cap1m, .slice a1d len1d cap1d]; simpa using this : Box ((w.alloc (.cells #[.bool a0g, .slice a0m len0m cap0m, .slice a0d len0d cap0d] 26)).alloc (.cells #[.bool a1g, .slice a1m len1m cap1m, .slice a1d len1d cap1d] 26)) (w.heap.size + 1) 26 #[.bool a1g, .slice a1m len1m cap1m, .slice a1d len1d cap1d])
  have sz2 : (w.alloc (.cells #[.bool a0g, .slice a0m len0m cap0m, .slice a0d len0d cap0d] 26)).heap.size ≤ ((w.alloc (.cells #[.bool a0g, .slice a0m len0m cap0m, .slice a0d len0d cap0d] 26)).alloc (.cells #[.bool a1g, .slice a1m len1m cap1m, .slice a1d len1d cap1d] 26)).heap.size := (by simp)
  by_cases bigs0 : (1048576 : Int) - (len0m : Int) - (len0d : Int) < 0
  · go_enter Try.func12, Try.ntmps12
    go_wp2_with fail
    refine (szRat_neg a0g a0m len0m cap0m a0d len0d cap0d ((1048576 : Int)) _ (by omega) (by omega) (by unfold maxLen; omega) (by unfold maxLen; omega) (by omega)).mono ?_
    rintro e ws0 ⟨rfl, hb⟩
    have BW3 := Lib.hid (BW2.out.trans (hb.mono BW2.out.size))
    have sz3 : ((w.alloc (.cells #[.bool a0g, .slice a0m len0m cap0m, .slice a0d len0d cap0d] 26)).alloc (.cells #[.bool a1g, .slice a1m len1m cap1m, .slice a1d len1d cap1d] 26)).heap.size ≤ ws0.heap.size := hb.size
    have XaR_3 := Lib.hid (XaR_2.out.below hb XaR_2.out.lt)
    have XaS_3 := Lib.hid (XaS_2.out.below hb XaS_2.out.lt)
    clear hb
    go_wp2_with fail
    go_ret
    exact ⟨rfl, BW3.out⟩
  by_cases bigs1 : (1048576 : Int) - (len0m : Int) - (len0d : Int) - (len1m : Int) - (len1d : Int) < 0
  · go_enter Try.func12, Try.ntmps12
    go_wp2_with fail
    refine (szRat_pos a0g a0m len0m cap0m a0d len0d cap0d ((1048576 : Int)) _ (by omega) (by omega)  (by omega)).mono ?_
    rintro e ws0 ⟨rfl, hb⟩
    have BW3 := Lib.hid (BW2.out.trans (hb.mono BW2.out.size))
    have sz3 : ((w.alloc (.cells #[.bool a0g, .slice a0m len0m cap0m, .slice a0d len0d cap0d] 26)).alloc (.cells #[.bool a1g, .slice a1m len1m cap1m, .slice a1d len1d cap1d] 26)).heap.size ≤ ws0.heap.size := hb.size
    have XaR_3 := Lib.hid (XaR_2.out.below hb XaR_2.out.lt)
    have XaS_3 := Lib.hid (XaS_2.out.below hb XaS_2.out.lt)
    clear hb
    have eaS0a : ws0.cell? ⟨w.heap.size + 1, 0, none⟩ = some (.bool a1g) := XaS_3.out.cell 0
    have eaS1a : ws0.cell? ⟨w.heap.size + 1, 1, none⟩ = some (.slice a1m len1m cap1m) := XaS_3.out.cell 1
    have eaS2a : ws0.cell? ⟨w.heap.size + 1, 2, none⟩ = some (.slice a1d len1d cap1d) := XaS_3.out.cell 2
    go_wp2_with fail
    clear eaS0a eaS1a eaS2a
    refine (szRat_neg a1g a1m len1m cap1m a1d len1d cap1d ((1048576 : Int) - (len0m : Int) - (len0d : Int)) _ (by omega) (by omega) (by unfold maxLen; omega) (by unfold maxLen; omega) (by omega)).mono ?_
    rintro e ws1 ⟨rfl, hb⟩
    have BW4 := Lib.hid (BW3.out.trans (hb.mono BW3.out.size))
    have sz4 : ws0.heap.size ≤ ws1.heap.size := hb.size
    have XaR_4 := Lib.hid (XaR_3.out.below hb XaR_3.out.lt)
    have XaS_4 := Lib.hid (XaS_3.out.below hb XaS_3.out.lt)
    clear hb
    go_wp2_with fail
    go_ret
    exact ⟨rfl, BW4.out⟩
  have Inz0m : Hid (InI w a0m len0m z0m) := ⟨Hz0m.out.1, by omega, Hz0m.out.2.2.1, Hz0m.out.2.2.2⟩
  have Inz0d : Hid (InI w a0d len0d z0d) := ⟨Hz0d.out.1, by omega, Hz0d.out.2.2.1, Hz0d.out.2.2.2⟩
  have Inz1m : Hid (InI w a1m len1m z1m) := ⟨Hz1m.out.1, by omega, Hz1m.out.2.2.1, Hz1m.out.2.2.2⟩
  have Inz1d : Hid (InI w a1d len1d z1d) := ⟨Hz1d.out.1, by omega, Hz1d.out.2.2.1, Hz1d.out.2.2.2⟩
  go_enter Try.func12, Try.ntmps12
  go_wp2_with fail
  refine (szRat_pos a0g a0m len0m cap0m a0d len0d cap0d ((1048576 : Int)) _ (by omega) (by omega)  (by omega)).mono ?_
  rintro e ws0 ⟨rfl, hb⟩
  have BW3 := Lib.hid (BW2.out.trans (hb.mono BW2.out.size))
  have sz3 : ((w.alloc (.cells #[.bool a0g, .slice a0m len0m cap0m, .slice a0d len0d cap0d] 26)).alloc (.cells #[.bool a1g, .slice a1m len1m cap1m, .slice a1d len1d cap1d] 26)).heap.size ≤ ws0.heap.size := hb.size
  have XaR_3 := Lib.hid (XaR_2.out.below hb XaR_2.out.lt)
  have XaS_3 := Lib.hid (XaS_2.out.below hb XaS_2.out.lt)
  clear hb
  have eaS0a : ws0.cell? ⟨w.heap.size + 1, 0, none⟩ = some (.bool a1g) := XaS_3.out.cell 0
  have eaS1a : ws0.cell? ⟨w.heap.size + 1, 1, none⟩ = some (.slice a1m len1m cap1m) := XaS_3.out.cell 1
  have eaS2a : ws0.cell? ⟨w.heap.size + 1, 2, none⟩ = some (.slice a1d len1d cap1d) := XaS_3.out.cell 2
  go_wp2_with fail
  clear eaS0a eaS1a eaS2a
  refine (szRat_pos a1g a1m len1m cap1m a1d len1d cap1d ((1048576 : Int) - (len0m : Int) - (len0d : Int)) _ (by omega) (by omega)  (by omega)).mono ?_
  rintro e ws1 ⟨rfl, hb⟩
  have BW4 := Lib.hid (BW3.out.trans (hb.mono BW3.out.size))
  have sz4 : ws0.heap.size ≤ ws1.heap.size := hb.size
  have XaR_4 := Lib.hid (XaR_3.out.below hb XaR_3.out.lt)
  have XaS_4 := Lib.hid (XaS_3.out.below hb XaS_3.out.lt)
  clear hb
  go_wp2_with fail
  have BW5 := Lib.hid BW4.out.drew
  have sz5 : ws1.heap.size ≤ ws1.drew.heap.size := Nat.le_refl _
  have XaR_5 := Lib.hid XaR_4.out.drew
  have XaS_5 := Lib.hid XaS_4.out.drew
  have cvaR0 : Hid ((#[.bool a0g, .slice a0m len0m cap0m, .slice a0d len0d cap0d] : Array Value)[0]? = some (.bool a0g)) := rfl
  have cvaR1 : Hid ((#[.bool a0g, .slice a0m len0m cap0m, .slice a0d len0d cap0d] : Array Value)[1]? = some (.slice a0m len0m cap0m)) := rfl
  have cvaR2 : Hid ((#[.bool a0g, .slice a0m len0m cap0m, .slice a0d len0d cap0d] : Array Value)[2]? = some (.slice a0d len0d cap0d)) := rfl
  have cvaS0 : Hid ((#[.bool a1g, .slice a1m len1m cap1m, .slice a1d len1d cap1d] : Array Value)[0]? = some (.bool a1g)) := rfl
  have cvaS1 : Hid ((#[.bool a1g, .slice a1m len1m cap1m, .slice a1d len1d cap1d] : Array Value)[1]? = some (.slice a1m len1m cap1m)) := rfl
  have cvaS2 : Hid ((#[.bool a1g, .slice a1m len1m cap1m, .slice a1d len1d cap1d] : Array Value)[2]? = some (.slice a1d len1d cap1d)) := rfl
  go_region_held3 (fun w' => w'.cell? ⟨w.heap.size, 0, none⟩ = some (.bool a0g) ∧ w'.cell? ⟨w.heap.size, 1, none⟩ = some (.slice a0m len0m cap0m) ∧ w'.cell? ⟨w.heap.size, 2, none⟩ = some (.slice a0d len0d cap0d) ∧ w'.cell? ⟨w.heap.size + 1, 0, none⟩ = some (.bool a1g) ∧ w'.cell? ⟨w.heap.size + 1, 1, none⟩ = some (.slice a1m len1m cap1m) ∧ w'.cell? ⟨w.heap.size + 1, 2, none⟩ = some (.slice a1d len1d cap1d)) (first | with_reducible exact ⟨cellS XaR_8 cvaR0, cellS XaR_8 cvaR1, cellS XaR_8 cvaR2, cellS XaS_8 cvaS0, cellS XaS_8 cvaS1, cellS XaS_8 cvaS2⟩ | with_reducible exact ⟨cellS XaR_7 cvaR0, cellS XaR_7 cvaR1, cellS XaR_7 cvaR2, cellS XaS_7 cvaS0, cellS XaS_7 cvaS1, cellS XaS_7 cvaS2⟩ | with_reducible exact ⟨cellS XaR_6 cvaR0, cellS XaR_6 cvaR1, cellS XaR_6 cvaR2, cellS XaS_6 cvaS0, cellS XaS_6 cvaS1, cellS XaS_6 cvaS2⟩ | with_reducible exact ⟨cellS XaR_5 cvaR0, cellS XaR_5 cvaR1, cellS XaR_5 cvaR2, cellS XaS_5 cvaS0, cellS XaS_5 cvaS1, cellS XaS_5 cvaS2⟩) (first | (go_at_call 45; (with_reducible refine (spec_ratCmp a0g At1m len0m ct1m z0m At1d len0d ct1d z0d a1g At2m len1m ct2m z1m At2d len1d ct2d z1d _ (Inz0m.out.own Ot1m_7.out) (room_own Ot1m_7.out) (Inz0d.out.own Ot1d_7.out) (room_own Ot1d_7.out) (Inz1m.out.own Ot2m_7.out) (room_own Ot2m_7.out) (Inz1d.out.own Ot2d_7.out) (room_own Ot2d_7.out)).mono ?_); rintro e w3 ⟨r1_00, rfl, his, hb⟩; have BW8 := Lib.hid (BW7.out.trans (hb.mono BW7.out.size)); have sz8 : w2.heap.size ≤ w3.heap.size := hb.size; have Ot1m_8 := Lib.hid (own_below Ot1m_7.out hb); have Ot1d_8 := Lib.hid (own_below Ot1d_7.out hb); have Ot2m_8 := Lib.hid (own_below Ot2m_7.out hb); have Ot2d_8 := Lib.hid (own_below Ot2d_7.out hb); have XaR_8 := Lib.hid (XaR_7.out.below hb XaR_7.out.lt); have XaS_8 := Lib.hid (XaS_7.out.below hb XaS_7.out.lt); clear hb; have IS := Lib.hid his; clear his; clear Ot1m_8 Ut1m Ot1d_8 Ut1d; clear Ot2m_8 Ut2m Ot2d_8 Ut2d) | (go_at_call 20; (with_reducible refine (toRat_any a1g a1m len1m cap1m z1m a1d len1d cap1d z1d _ Inz1m.out.len Inz1m.out.le (Inz1m.out.rd.below BW6.out) Inz1d.out.len Inz1d.out.le (Inz1d.out.rd.below BW6.out)).mono ?_); rintro e w2 ⟨v0, v1, rfl, ho0, ho1, hap10, hb⟩; have BW7 := Lib.hid (BW6.out.trans (hb.mono BW6.out.size)); have sz7 : w1.heap.size ≤ w2.heap.size := hb.size; have Ot1m_7 := Lib.hid (own_below Ot1m_6.out hb); have Ot1d_7 := Lib.hid (own_below Ot1d_6.out hb); have XaR_7 := Lib.hid (XaR_6.out.below hb XaR_6.out.lt); have XaS_7 := Lib.hid (XaS_6.out.below hb XaS_6.out.lt); obtain ⟨At2m, ct2m, rfl⟩ := own_slice ho0; have Ut2m := Lib.hid (fun k (hk : (Value.slice At2m len1m ct2m).ownBlock = some k) => (ho0.lt k hk).2); have Ot2m_7 := Lib.hid ho0; clear ho0; obtain ⟨At2d, ct2d, rfl⟩ := own_slice ho1; have Ut2d := Lib.hid (fun k (hk : (Value.slice At2d len1d ct2d).ownBlock = some k) => (ho1.lt k hk).2); have Ot2d_7 := Lib.hid ho1; clear ho1; have APt2d_t2m := Lib.hid hap10; have APt2m_t2d := Lib.hid hap10.symm; clear hap10; clear hb) | (go_at_call 20; (with_reducible refine (toRat_any a0g a0m len0m cap0m z0m a0d len0d cap0d z0d _ Inz0m.out.len Inz0m.out.le (Inz0m.out.rd.below BW5.out) Inz0d.out.len Inz0d.out.le (Inz0d.out.rd.below BW5.out)).mono ?_); rintro e w1 ⟨v0, v1, rfl, ho0, ho1, hap10, hb⟩; have BW6 := Lib.hid (BW5.out.trans (hb.mono BW5.out.size)); have sz6 : ws1.drew.heap.size ≤ w1.heap.size := hb.size; have XaR_6 := Lib.hid (XaR_5.out.below hb XaR_5.out.lt); have XaS_6 := Lib.hid (XaS_5.out.below hb XaS_5.out.lt); obtain ⟨At1m, ct1m, rfl⟩ := own_slice ho0; have Ut1m := Lib.hid (fun k (hk : (Value.slice At1m len0m ct1m).ownBlock = some k) => (ho0.lt k hk).2); have Ot1m_6 := Lib.hid ho0; clear ho0; obtain ⟨At1d, ct1d, rfl⟩ := own_slice ho1; have Ut1d := Lib.hid (fun k (hk : (Value.slice At1d len0d ct1d).ownBlock = some k) => (ho1.lt k hk).2); have Ot1d_6 := Lib.hid ho1; clear ho1; have APt1d_t1m := Lib.hid hap10; have APt1m_t1d := Lib.hid hap10.symm; clear hap10; clear hb))
  clear cvaR0 cvaR1 cvaR2 cvaS0 cvaS1 cvaS2
  have eaR0a : w3.cell? ⟨w.heap.size, 0, none⟩ = some (.bool a0g) := XaR_8.out.cell 0
  have eaR1a : w3.cell? ⟨w.heap.size, 1, none⟩ = some (.slice a0m len0m cap0m) := XaR_8.out.cell 1
  have eaR2a : w3.cell? ⟨w.heap.size, 2, none⟩ = some (.slice a0d len0d cap0d) := XaR_8.out.cell 2
  go_wp2_with fail
  clear eaR0a eaR1a eaR2a
  refine (toRat_any a0g a0m len0m cap0m z0m a0d len0d cap0d z0d _ Inz0m.out.len Inz0m.out.le (Inz0m.out.rd.below BW8.out) Inz0d.out.len Inz0d.out.le (Inz0d.out.rd.below BW8.out)).mono ?_
  rintro e w4 ⟨v0, v1, rfl, ho0, ho1, hap10, hb⟩
  have BW9 := Lib.hid (BW8.out.trans (hb.mono BW8.out.size))
  have sz9 : w3.heap.size ≤ w4.heap.size := hb.size
  have XaR_9 := Lib.hid (XaR_8.out.below hb XaR_8.out.lt)
  have XaS_9 := Lib.hid (XaS_8.out.below hb XaS_8.out.lt)
  obtain ⟨Ax0m, cx0m, rfl⟩ := own_slice ho0
  have Ux0m := Lib.hid (fun k (hk : (Value.slice Ax0m len0m cx0m).ownBlock = some k) => (ho0.lt k hk).2)
  have Ox0m_9 := Lib.hid ho0
  clear ho0
  obtain ⟨Ax0d, cx0d, rfl⟩ := own_slice ho1
  have Ux0d := Lib.hid (fun k (hk : (Value.slice Ax0d len0d cx0d).ownBlock = some k) => (ho1.lt k hk).2)
  have Ox0d_9 := Lib.hid ho1
  clear ho1
  have APx0d_x0m := Lib.hid hap10
  have APx0m_x0d := Lib.hid hap10.symm
  clear hap10
  clear hb
  have BW10 := Lib.hid (BW9.out.alloc BW9.out.size (.cells #[.bool a0g, .slice Ax0m len0m cx0m, .slice Ax0d len0d cx0d] 31))
  have sz10 : w4.heap.size ≤ (w4.alloc (.cells #[.bool a0g, .slice Ax0m len0m cx0m, .slice Ax0d len0d cx0d] 31)).heap.size := (by simp)
  have Ox0m_10 := Lib.hid (Ox0m_9.out.alloc (.cells #[.bool a0g, .slice Ax0m len0m cx0m, .slice Ax0d len0d cx0d] 31))
  have Ox0d_10 := Lib.hid (Ox0d_9.out.alloc (.cells #[.bool a0g, .slice Ax0m len0m cx0m, .slice Ax0d len0d cx0d] 31))
  have XaR_10 := Lib.hid (XaR_9.out.alloc (.cells #[.bool a0g, .slice Ax0m len0m cx0m, .slice Ax0d len0d cx0d] 31))
  have XaS_10 := Lib.hid (XaS_9.out.alloc (.cells #[.bool a0g, .slice Ax0m len0m cx0m, .slice Ax0d len0d cx0d] 31))
  have Xx0_10 := Lib.hid (Box.new w4 31 #[.bool a0g, .slice Ax0m len0m cx0m, .slice Ax0d len0d cx0d])
  have eaS0a : w4.cell? ⟨w.heap.size + 1, 0, none⟩ = some (.bool a1g) := XaS_9.out.cell 0
  have eaS1a : w4.cell? ⟨w.heap.size + 1, 1, none⟩ = some (.slice a1m len1m cap1m) := XaS_9.out.cell 1
  have eaS2a : w4.cell? ⟨w.heap.size + 1, 2, none⟩ = some (.slice a1d len1d cap1d) := XaS_9.out.cell 2
  have eaS0b : (w4.alloc (.cells #[.bool a0g, .slice Ax0m len0m cx0m, .slice Ax0d len0d cx0d] 31)).cell? ⟨w.heap.size + 1, 0, none⟩ = some (.bool a1g) := XaS_10.out.cell 0
  have eaS1b : (w4.alloc (.cells #[.bool a0g, .slice Ax0m len0m cx0m, .slice Ax0d len0d cx0d] 31)).cell? ⟨w.heap.size + 1, 1, none⟩ = some (.slice a1m len1m cap1m) := XaS_10.out.cell 1
  have eaS2b : (w4.alloc (.cells #[.bool a0g, .slice Ax0m len0m cx0m, .slice Ax0d len0d cx0d] 31)).cell? ⟨w.heap.size + 1, 2, none⟩ = some (.slice a1d len1d cap1d) := XaS_10.out.cell 2
  have neaS0 : w4.heap.size ≠ w.heap.size + 1 := (by have := XaS_9.out.lt; omega)
  go_wp2_with fail
  clear eaS0a eaS1a eaS2a eaS0b eaS1b eaS2b neaS0
  refine (toRat_any a1g a1m len1m cap1m z1m a1d len1d cap1d z1d _ Inz1m.out.len Inz1m.out.le (Inz1m.out.rd.below BW10.out) Inz1d.out.len Inz1d.out.le (Inz1d.out.rd.below BW10.out)).mono ?_
  rintro e w5 ⟨v0, v1, rfl, ho0, ho1, hap10, hb⟩
  have BW11 := Lib.hid (BW10.out.trans (hb.mono BW10.out.size))
  have sz11 : (w4.alloc (.cells #[.bool a0g, .slice Ax0m len0m cx0m, .slice Ax0d len0d cx0d] 31)).heap.size ≤ w5.heap.size := hb.size
  have Ox0m_11 := Lib.hid (own_below Ox0m_10.out hb)
  have Ox0d_11 := Lib.hid (own_below Ox0d_10.out hb)
  have XaR_11 := Lib.hid (XaR_10.out.below hb XaR_10.out.lt)
  have XaS_11 := Lib.hid (XaS_10.out.below hb XaS_10.out.lt)
  have Xx0_11 := Lib.hid (Xx0_10.out.below hb Xx0_10.out.lt)
  obtain ⟨Ax1m, cx1m, rfl⟩ := own_slice ho0
  have Ux1m := Lib.hid (fun k (hk : (Value.slice Ax1m len1m cx1m).ownBlock = some k) => (ho0.lt k hk).2)
  have Ox1m_11 := Lib.hid ho0
  clear ho0
  obtain ⟨Ax1d, cx1d, rfl⟩ := own_slice ho1
  have Ux1d := Lib.hid (fun k (hk : (Value.slice Ax1d len1d cx1d).ownBlock = some k) => (ho1.lt k hk).2)
  have Ox1d_11 := Lib.hid ho1
  clear ho1
  have APx1d_x1m := Lib.hid hap10
  have APx1m_x1d := Lib.hid hap10.symm
  clear hap10
  clear hb
  have BW12 := Lib.hid (BW11.out.alloc BW11.out.size (.cells #[.bool a1g, .slice Ax1m len1m cx1m, .slice Ax1d len1d cx1d] 31))
  have sz12 : w5.heap.size ≤ (w5.alloc (.cells #[.bool a1g, .slice Ax1m len1m cx1m, .slice Ax1d len1d cx1d] 31)).heap.size := (by simp)
  have Ox0m_12 := Lib.hid (Ox0m_11.out.alloc (.cells #[.bool a1g, .slice Ax1m len1m cx1m, .slice Ax1d len1d cx1d] 31))
  have Ox0d_12 := Lib.hid (Ox0d_11.out.alloc (.cells #[.bool a1g, .slice Ax1m len1m cx1m, .slice Ax1d len1d cx1d] 31))
  have Ox1m_12 := Lib.hid (Ox1m_11.out.alloc (.cells #[.bool a1g, .slice Ax1m len1m cx1m, .slice Ax1d len1d cx1d] 31))
  have Ox1d_12 := Lib.hid (Ox1d_11.out.alloc (.cells #[.bool a1g, .slice Ax1m len1m cx1m, .slice Ax1d len1d cx1d] 31))
  have XaR_12 := Lib.hid (XaR_11.out.alloc (.cells #[.bool a1g, .slice Ax1m len1m cx1m, .slice Ax1d len1d cx1d] 31))
  have XaS_12 := Lib.hid (XaS_11.out.alloc (.cells #[.bool a1g, .slice Ax1m len1m cx1m, .slice Ax1d len1d cx1d] 31))
  have Xx0_12 := Lib.hid (Xx0_11.out.alloc (.cells #[.bool a1g, .slice Ax1m len1m cx1m, .slice Ax1d len1d cx1d] 31))
  have Xx1_12 := Lib.hid (Box.new w5 31 #[.bool a1g, .slice Ax1m len1m cx1m, .slice Ax1d len1d cx1d])
  have ex00a : w5.cell? ⟨w4.heap.size, 0, none⟩ = some (.bool a0g) := Xx0_11.out.cell 0
  have ex01a : w5.cell? ⟨w4.heap.size, 1, none⟩ = some (.slice Ax0m len0m cx0m) := Xx0_11.out.cell 1
  have ex02a : w5.cell? ⟨w4.heap.size, 2, none⟩ = some (.slice Ax0d len0d cx0d) := Xx0_11.out.cell 2
  have ex00b : (w5.alloc (.cells #[.bool a1g, .slice Ax1m len1m cx1m, .slice Ax1d len1d cx1d] 31)).cell? ⟨w4.heap.size, 0, none⟩ = some (.bool a0g) := Xx0_12.out.cell 0
  have ex01b : (w5.alloc (.cells #[.bool a1g, .slice Ax1m len1m cx1m, .slice Ax1d len1d cx1d] 31)).cell? ⟨w4.heap.size, 1, none⟩ = some (.slice Ax0m len0m cx0m) := Xx0_12.out.cell 1
  have ex02b : (w5.alloc (.cells #[.bool a1g, .slice Ax1m len1m cx1m, .slice Ax1d len1d cx1d] 31)).cell? ⟨w4.heap.size, 2, none⟩ = some (.slice Ax0d len0d cx0d) := Xx0_12.out.cell 2
  have nex00 : w5.heap.size ≠ w4.heap.size := (by have := Xx0_11.out.lt; omega)
  go_wp2_with fail
  clear ex00a ex01a ex02a ex00b ex01b ex02b nex00
  refine (impl_ratCmp a0g Ax0m len0m cx0m z0m Ax0d len0d cx0d z0d a1g Ax1m len1m cx1m z1m Ax1d len1d cx1d z1d _ (Inz0m.out.own Ox0m_12.out) (room_own Ox0m_12.out) (Inz0d.out.own Ox0d_12.out) (room_own Ox0d_12.out) (Inz1m.out.own Ox1m_12.out) (room_own Ox1m_12.out) (Inz1d.out.own Ox1d_12.out) (room_own Ox1d_12.out)).mono ?_
  rintro e w6 ⟨r2_00, rfl, his, hb⟩
  have BW13 := Lib.hid (BW12.out.trans (hb.mono BW12.out.size))
  have sz13 : (w5.alloc (.cells #[.bool a1g, .slice Ax1m len1m cx1m, .slice Ax1d len1d cx1d] 31)).heap.size ≤ w6.heap.size := hb.size
  have Ox0m_13 := Lib.hid (own_below Ox0m_12.out hb)
  have Ox0d_13 := Lib.hid (own_below Ox0d_12.out hb)
  have Ox1m_13 := Lib.hid (own_below Ox1m_12.out hb)
  have Ox1d_13 := Lib.hid (own_below Ox1d_12.out hb)
  have XaR_13 := Lib.hid (XaR_12.out.below hb XaR_12.out.lt)
  have XaS_13 := Lib.hid (XaS_12.out.below hb XaS_12.out.lt)
  have Xx0_13 := Lib.hid (Xx0_12.out.below hb Xx0_12.out.lt)
  have Xx1_13 := Lib.hid (Xx1_12.out.below hb Xx1_12.out.lt)
  clear hb
  obtain rfl := ratCmp_unique IS.out his
  clear his
  go_wp2_with fail
  have BW14 := Lib.hid BW13.out.drew
  have sz14 : w6.heap.size ≤ w6.drew.heap.size := Nat.le_refl _
  have Ox0m_14 := Lib.hid (own_drew Ox0m_13.out)
  have Ox0d_14 := Lib.hid (own_drew Ox0d_13.out)
  have Ox1m_14 := Lib.hid (own_drew Ox1m_13.out)
  have Ox1d_14 := Lib.hid (own_drew Ox1d_13.out)
  have XaR_14 := Lib.hid XaR_13.out.drew
  have XaS_14 := Lib.hid XaS_13.out.drew
  have Xx0_14 := Lib.hid Xx0_13.out.drew
  have Xx1_14 := Lib.hid Xx1_13.out.drew
  have cvx00 : Hid ((#[.bool a0g, .slice Ax0m len0m cx0m, .slice Ax0d len0d cx0d] : Array Value)[0]? = some (.bool a0g)) := rfl
  have cvx01 : Hid ((#[.bool a0g, .slice Ax0m len0m cx0m, .slice Ax0d len0d cx0d] : Array Value)[1]? = some (.slice Ax0m len0m cx0m)) := rfl
  have cvx02 : Hid ((#[.bool a0g, .slice Ax0m len0m cx0m, .slice Ax0d len0d cx0d] : Array Value)[2]? = some (.slice Ax0d len0d cx0d)) := rfl
  have cvaR0 : Hid ((#[.bool a0g, .slice a0m len0m cap0m, .slice a0d len0d cap0d] : Array Value)[0]? = some (.bool a0g)) := rfl
  have cvaR1 : Hid ((#[.bool a0g, .slice a0m len0m cap0m, .slice a0d len0d cap0d] : Array Value)[1]? = some (.slice a0m len0m cap0m)) := rfl
  have cvaR2 : Hid ((#[.bool a0g, .slice a0m len0m cap0m, .slice a0d len0d cap0d] : Array Value)[2]? = some (.slice a0d len0d cap0d)) := rfl
  go_region_held3 (fun w' => w'.cell? ⟨w4.heap.size, 0, none⟩ = some (.bool a0g) ∧ w'.cell? ⟨w4.heap.size, 1, none⟩ = some (.slice Ax0m len0m cx0m) ∧ w'.cell? ⟨w4.heap.size, 2, none⟩ = some (.slice Ax0d len0d cx0d) ∧ w'.cell? ⟨w.heap.size, 0, none⟩ = some (.bool a0g) ∧ w'.cell? ⟨w.heap.size, 1, none⟩ = some (.slice a0m len0m cap0m) ∧ w'.cell? ⟨w.heap.size, 2, none⟩ = some (.slice a0d len0d cap0d)) (first | with_reducible exact ⟨cellS Xx0_16 cvx00, cellS Xx0_16 cvx01, cellS Xx0_16 cvx02, cellS XaR_16 cvaR0, cellS XaR_16 cvaR1, cellS XaR_16 cvaR2⟩ | with_reducible exact ⟨cellS Xx0_15 cvx00, cellS Xx0_15 cvx01, cellS Xx0_15 cvx02, cellS XaR_15 cvaR0, cellS XaR_15 cvaR1, cellS XaR_15 cvaR2⟩ | with_reducible exact ⟨cellS Xx0_14 cvx00, cellS Xx0_14 cvx01, cellS Xx0_14 cvx02, cellS XaR_14 cvaR0, cellS XaR_14 cvaR1, cellS XaR_14 cvaR2⟩) (first | (go_at_call 22; refine (eqRat_same a0g Ax0m At3m len0m cx0m ct3m z0m Ax0d At3d len0d cx0d ct3d z0d _ Inz0m.out.len (by unfold maxLen; omega) (Reads.of_own Ox0m_15.out) (Reads.of_own Ot3m_15.out) Inz0d.out.len (by unfold maxLen; omega) (Reads.of_own Ox0d_15.out) (Reads.of_own Ot3d_15.out)).mono ?_; rintro e w8 ⟨rfl, hb⟩; have BW16 := Lib.hid (BW15.out.trans (hb.mono BW15.out.size)); have sz16 : w7.heap.size ≤ w8.heap.size := hb.size; have Ox0m_16 := Lib.hid (own_below Ox0m_15.out hb); have Ox0d_16 := Lib.hid (own_below Ox0d_15.out hb); have Ox1m_16 := Lib.hid (own_below Ox1m_15.out hb); have Ox1d_16 := Lib.hid (own_below Ox1d_15.out hb); have Ot3m_16 := Lib.hid (own_below Ot3m_15.out hb); have Ot3d_16 := Lib.hid (own_below Ot3d_15.out hb); have XaR_16 := Lib.hid (XaR_15.out.below hb XaR_15.out.lt); have XaS_16 := Lib.hid (XaS_15.out.below hb XaS_15.out.lt); have Xx0_16 := Lib.hid (Xx0_15.out.below hb Xx0_15.out.lt); have Xx1_16 := Lib.hid (Xx1_15.out.below hb Xx1_15.out.lt); clear hb) | (go_at_call 20; refine (toRat_any a0g a0m len0m cap0m z0m a0d len0d cap0d z0d _ Inz0m.out.len Inz0m.out.le (Inz0m.out.rd.below BW14.out) Inz0d.out.len Inz0d.out.le (Inz0d.out.rd.below BW14.out)).mono ?_; rintro e w7 ⟨v0, v1, rfl, ho0, ho1, hap10, hb⟩; have BW15 := Lib.hid (BW14.out.trans (hb.mono BW14.out.size)); have sz15 : w6.drew.heap.size ≤ w7.heap.size := hb.size; have Ox0m_15 := Lib.hid (own_below Ox0m_14.out hb); have Ox0d_15 := Lib.hid (own_below Ox0d_14.out hb); have Ox1m_15 := Lib.hid (own_below Ox1m_14.out hb); have Ox1d_15 := Lib.hid (own_below Ox1d_14.out hb); have XaR_15 := Lib.hid (XaR_14.out.below hb XaR_14.out.lt); have XaS_15 := Lib.hid (XaS_14.out.below hb XaS_14.out.lt); have Xx0_15 := Lib.hid (Xx0_14.out.below hb Xx0_14.out.lt); have Xx1_15 := Lib.hid (Xx1_14.out.below hb Xx1_14.out.lt); obtain ⟨At3m, ct3m, rfl⟩ := own_slice ho0; have Ut3m := Lib.hid (fun k (hk : (Value.slice At3m len0m ct3m).ownBlock = some k) => (ho0.lt k hk).2); have Ot3m_15 := Lib.hid ho0; clear ho0; obtain ⟨At3d, ct3d, rfl⟩ := own_slice ho1; have Ut3d := Lib.hid (fun k (hk : (Value.slice At3d len0d ct3d).ownBlock = some k) => (ho1.lt k hk).2); have Ot3d_15 := Lib.hid ho1; clear ho1; have APt3d_t3m := Lib.hid hap10; have APt3m_t3d := Lib.hid hap10.symm; clear hap10; clear hb))
  clear cvx00 cvx01 cvx02 cvaR0 cvaR1 cvaR2
  clear Ox0m_16 Ux0m Ox0d_16 Ux0d Xx0_16
  clear Ot3m_16 Ut3m Ot3d_16 Ut3d
  go_wp2_with fail
  have BW17 := Lib.hid BW16.out.drew
  have sz17 : w8.heap.size ≤ w8.drew.heap.size := Nat.le_refl _
  have Ox1m_17 := Lib.hid (own_drew Ox1m_16.out)
  have Ox1d_17 := Lib.hid (own_drew Ox1d_16.out)
  have XaR_17 := Lib.hid XaR_16.out.drew
  have XaS_17 := Lib.hid XaS_16.out.drew
  have Xx1_17 := Lib.hid Xx1_16.out.drew
  have cvx10 : Hid ((#[.bool a1g, .slice Ax1m len1m cx1m, .slice Ax1d len1d cx1d] : Array Value)[0]? = some (.bool a1g)) := rfl
  have cvx11 : Hid ((#[.bool a1g, .slice Ax1m len1m cx1m, .slice Ax1d len1d cx1d] : Array Value)[1]? = some (.slice Ax1m len1m cx1m)) := rfl
  have cvx12 : Hid ((#[.bool a1g, .slice Ax1m len1m cx1m, .slice Ax1d len1d cx1d] : Array Value)[2]? = some (.slice Ax1d len1d cx1d)) := rfl
  have cvaS0 : Hid ((#[.bool a1g, .slice a1m len1m cap1m, .slice a1d len1d cap1d] : Array Value)[0]? = some (.bool a1g)) := rfl
  have cvaS1 : Hid ((#[.bool a1g, .slice a1m len1m cap1m, .slice a1d len1d cap1d] : Array Value)[1]? = some (.slice a1m len1m cap1m)) := rfl
  have cvaS2 : Hid ((#[.bool a1g, .slice a1m len1m cap1m, .slice a1d len1d cap1d] : Array Value)[2]? = some (.slice a1d len1d cap1d)) := rfl
  go_region_held3 (fun w' => w'.cell? ⟨w5.heap.size, 0, none⟩ = some (.bool a1g) ∧ w'.cell? ⟨w5.heap.size, 1, none⟩ = some (.slice Ax1m len1m cx1m) ∧ w'.cell? ⟨w5.heap.size, 2, none⟩ = some (.slice Ax1d len1d cx1d) ∧ w'.cell? ⟨w.heap.size + 1, 0, none⟩ = some (.bool a1g) ∧ w'.cell? ⟨w.heap.size + 1, 1, none⟩ = some (.slice a1m len1m cap1m) ∧ w'.cell? ⟨w.heap.size + 1, 2, none⟩ = some (.slice a1d len1d cap1d)) (first | with_reducible exact ⟨cellS Xx1_19 cvx10, cellS Xx1_19 cvx11, cellS Xx1_19 cvx12, cellS XaS_19 cvaS0, cellS XaS_19 cvaS1, cellS XaS_19 cvaS2⟩ | with_reducible exact ⟨cellS Xx1_18 cvx10, cellS Xx1_18 cvx11, cellS Xx1_18 cvx12, cellS XaS_18 cvaS0, cellS XaS_18 cvaS1, cellS XaS_18 cvaS2⟩ | with_reducible exact ⟨cellS Xx1_17 cvx10, cellS Xx1_17 cvx11, cellS Xx1_17 cvx12, cellS XaS_17 cvaS0, cellS XaS_17 cvaS1, cellS XaS_17 cvaS2⟩) (first | (go_at_call 22; refine (eqRat_same a1g Ax1m At4m len1m cx1m ct4m z1m Ax1d At4d len1d cx1d ct4d z1d _ Inz1m.out.len (by unfold maxLen; omega) (Reads.of_own Ox1m_18.out) (Reads.of_own Ot4m_18.out) Inz1d.out.len (by unfold maxLen; omega) (Reads.of_own Ox1d_18.out) (Reads.of_own Ot4d_18.out)).mono ?_; rintro e w10 ⟨rfl, hb⟩; have BW19 := Lib.hid (BW18.out.trans (hb.mono BW18.out.size)); have sz19 : w9.heap.size ≤ w10.heap.size := hb.size; have Ox1m_19 := Lib.hid (own_below Ox1m_18.out hb); have Ox1d_19 := Lib.hid (own_below Ox1d_18.out hb); have Ot4m_19 := Lib.hid (own_below Ot4m_18.out hb); have Ot4d_19 := Lib.hid (own_below Ot4d_18.out hb); have XaR_19 := Lib.hid (XaR_18.out.below hb XaR_18.out.lt); have XaS_19 := Lib.hid (XaS_18.out.below hb XaS_18.out.lt); have Xx1_19 := Lib.hid (Xx1_18.out.below hb Xx1_18.out.lt); clear hb) | (go_at_call 20; refine (toRat_any a1g a1m len1m cap1m z1m a1d len1d cap1d z1d _ Inz1m.out.len Inz1m.out.le (Inz1m.out.rd.below BW17.out) Inz1d.out.len Inz1d.out.le (Inz1d.out.rd.below BW17.out)).mono ?_; rintro e w9 ⟨v0, v1, rfl, ho0, ho1, hap10, hb⟩; have BW18 := Lib.hid (BW17.out.trans (hb.mono BW17.out.size)); have sz18 : w8.drew.heap.size ≤ w9.heap.size := hb.size; have Ox1m_18 := Lib.hid (own_below Ox1m_17.out hb); have Ox1d_18 := Lib.hid (own_below Ox1d_17.out hb); have XaR_18 := Lib.hid (XaR_17.out.below hb XaR_17.out.lt); have XaS_18 := Lib.hid (XaS_17.out.below hb XaS_17.out.lt); have Xx1_18 := Lib.hid (Xx1_17.out.below hb Xx1_17.out.lt); obtain ⟨At4m, ct4m, rfl⟩ := own_slice ho0; have Ut4m := Lib.hid (fun k (hk : (Value.slice At4m len1m ct4m).ownBlock = some k) => (ho0.lt k hk).2); have Ot4m_18 := Lib.hid ho0; clear ho0; obtain ⟨At4d, ct4d, rfl⟩ := own_slice ho1; have Ut4d := Lib.hid (fun k (hk : (Value.slice At4d len1d ct4d).ownBlock = some k) => (ho1.lt k hk).2); have Ot4d_18 := Lib.hid ho1; clear ho1; have APt4d_t4m := Lib.hid hap10; have APt4m_t4d := Lib.hid hap10.symm; clear hap10; clear hb))
  clear cvx10 cvx11 cvx12 cvaS0 cvaS1 cvaS2
  clear Ox1m_19 Ux1m Ox1d_19 Ux1d Xx1_19
  clear Ot4m_19 Ut4m Ot4d_19 Ut4d
  go_wp2_with fail
  go_ret
  exact ⟨rfl, BW19.out⟩
end Go.Proofs.Ytbfanjalinkmhaa.fnExactRatCmp
