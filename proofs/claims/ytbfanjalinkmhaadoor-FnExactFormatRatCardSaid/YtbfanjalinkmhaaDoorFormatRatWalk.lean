/- The walk of the law: for all arguments the law FnExactFormatRat returns true: the program's FormatRat answers as the model's, where the library's table of powers of ten is as the program's text lays it; no other condition. -/
import Derived.Test.YtbfanjalinkmhaaDoorRatLaw
import Derived.Test.YtbfanjalinkmhaaDoorRatF
import Derived.ProofKit
import Derived.OpenShut
import Derived.ShutString
import Derived.Lib.SmallJoins
import Derived.LaidMore
import Derived.Stop.Joined
import Derived.Test.YtbfanjalinkmhaaDoorCards
import Derived.Test.YtbfanjalinkmhaaDoorTie
namespace Go.Proofs.YtbfanjalinkmhaaDoor.fnExactFormatRat
set_option maxRecDepth 100000
open Go.ChangeShapes Go.WideShapes Go.ChangeAt Go.RowKit Go.Joins Go.Deep
open Go.ChangeMaps (open_string shut_string)

set_option maxRecDepth 100000 in
set_option maxHeartbeats 16000000 in
theorem walk {w : World} (a0g : Bool) (a0m : Option Addr) (len0m cap0m : Nat) (z0m : List Int) (hz0m : IsInts w a0m len0m z0m) (a0d : Option Addr) (len0d cap0d : Nat) (z0d : List Int) (hz0d : IsInts w a0d len0d z0d) (ht : Tab w) :
    Calls Tryd.prog 3 #[.agg #[.bool a0g, .slice a0m len0m cap0m, .slice a0d len0d cap0d]] w fun e w' => e = .returned (.bool true) ∧ Below w.heap.size w w' := by
  have Ht := Lib.hid ht
  clear ht
  have hmz0m : len0m ≤ maxLen := hz0m.2.1
  have Hz0m := Lib.hid hz0m
  clear hz0m
  have hmz0d : len0d ≤ maxLen := hz0d.2.1
  have Hz0d := Lib.hid hz0d
  clear hz0d
  unfold maxLen at hmz0m hmz0d
  have BW0 : Hid (Below w.heap.size w w) := Below.refl _ _
  have BW1 := Lib.hid (BW0.out.alloc BW0.out.size (.cells #[.bool a0g, .slice a0m len0m cap0m, .slice a0d len0d cap0d] 26))
  have XaR_1 := Lib.hid (by have := Box.new w 26 #[.bool a0g, .slice a0m len0m cap0m, .slice a0d len0d cap0d]; simpa using this : Box (w.alloc (.cells #[.bool a0g, .slice a0m len0m cap0m, .slice a0d len0d cap0d] 26)) (w.heap.size) 26 #[.bool a0g, .slice a0m len0m cap0m, .slice a0d len0d cap0d])
  have sz1 : w.heap.size ≤ (w.alloc (.cells #[.bool a0g, .slice a0m len0m cap0m, .slice a0d len0d cap0d] 26)).heap.size := (by simp)
  by_cases bigs0 : (1048576 : Int) - (len0m : Int) - (len0d : Int) < 0
  · go_enter Tryd.func3, Tryd.ntmps3
    go_wp2_with fail
    refine (szRat_neg a0g a0m len0m cap0m a0d len0d cap0d ((1048576 : Int)) _ (by omega) (by omega) (by unfold maxLen; omega) (by unfold maxLen; omega) (by omega)).mono ?_
    rintro e ws0 ⟨rfl, hb⟩
    have BW2 := Lib.hid (BW1.out.trans (hb.mono BW1.out.size))
    have sz2 : (w.alloc (.cells #[.bool a0g, .slice a0m len0m cap0m, .slice a0d len0d cap0d] 26)).heap.size ≤ ws0.heap.size := hb.size
    have XaR_2 := Lib.hid (XaR_1.out.below hb XaR_1.out.lt)
    clear hb
    go_wp2_with fail
    go_ret
    exact ⟨rfl, BW2.out⟩
  have Inz0m : Hid (InI w a0m len0m z0m) := ⟨Hz0m.out.1, by omega, Hz0m.out.2.2.1, Hz0m.out.2.2.2⟩
  have Inz0d : Hid (InI w a0d len0d z0d) := ⟨Hz0d.out.1, by omega, Hz0d.out.2.2.1, Hz0d.out.2.2.2⟩
  go_enter Tryd.func3, Tryd.ntmps3
  go_wp2_with fail
  refine (szRat_pos a0g a0m len0m cap0m a0d len0d cap0d ((1048576 : Int)) _ (by omega) (by omega)  (by omega)).mono ?_
  rintro e ws0 ⟨rfl, hb⟩
  have BW2 := Lib.hid (BW1.out.trans (hb.mono BW1.out.size))
  have sz2 : (w.alloc (.cells #[.bool a0g, .slice a0m len0m cap0m, .slice a0d len0d cap0d] 26)).heap.size ≤ ws0.heap.size := hb.size
  have XaR_2 := Lib.hid (XaR_1.out.below hb XaR_1.out.lt)
  clear hb
  have eaR0a : ws0.cell? ⟨w.heap.size, 0, none⟩ = some (.bool a0g) := XaR_2.out.cell 0
  have eaR1a : ws0.cell? ⟨w.heap.size, 1, none⟩ = some (.slice a0m len0m cap0m) := XaR_2.out.cell 1
  have eaR2a : ws0.cell? ⟨w.heap.size, 2, none⟩ = some (.slice a0d len0d cap0d) := XaR_2.out.cell 2
  go_wp2_with fail
  clear eaR0a eaR1a eaR2a
  refine (toRat_any a0g a0m len0m cap0m z0m a0d len0d cap0d z0d _ Inz0m.out.len Inz0m.out.le (Inz0m.out.rd.below BW2.out) Inz0d.out.len Inz0d.out.le (Inz0d.out.rd.below BW2.out)).mono ?_
  rintro e w1 ⟨v0, v1, rfl, ho0, ho1, hap10, hb⟩
  have BW3 := Lib.hid (BW2.out.trans (hb.mono BW2.out.size))
  have sz3 : ws0.heap.size ≤ w1.heap.size := hb.size
  have XaR_3 := Lib.hid (XaR_2.out.below hb XaR_2.out.lt)
  obtain ⟨At1m, ct1m, rfl⟩ := own_slice ho0
  have Ut1m := Lib.hid (fun k (hk : (Value.slice At1m len0m ct1m).ownBlock = some k) => (ho0.lt k hk).2)
  have Ot1m_3 := Lib.hid ho0
  clear ho0
  obtain ⟨At1d, ct1d, rfl⟩ := own_slice ho1
  have Ut1d := Lib.hid (fun k (hk : (Value.slice At1d len0d ct1d).ownBlock = some k) => (ho1.lt k hk).2)
  have Ot1d_3 := Lib.hid ho1
  clear ho1
  have APt1d_t1m := Lib.hid hap10
  have APt1m_t1d := Lib.hid hap10.symm
  clear hap10
  clear hb
  go_wp2_with fail
  refine (spec_formatRat a0g At1m len0m ct1m z0m At1d len0d ct1d z0d _ (Inz0m.out.own Ot1m_3.out) (room_own Ot1m_3.out) (Inz0d.out.own Ot1d_3.out) (room_own Ot1d_3.out)).mono ?_
  rintro e w2 ⟨r1_00, rfl, his, hb⟩
  have BW4 := Lib.hid (BW3.out.trans (hb.mono BW3.out.size))
  have sz4 : w1.heap.size ≤ w2.heap.size := hb.size
  have Ot1m_4 := Lib.hid (own_below Ot1m_3.out hb)
  have Ot1d_4 := Lib.hid (own_below Ot1d_3.out hb)
  have XaR_4 := Lib.hid (XaR_3.out.below hb XaR_3.out.lt)
  clear hb
  have IS := Lib.hid his
  clear his
  clear Ot1m_4 Ut1m Ot1d_4 Ut1d
  have eaR0a : w2.cell? ⟨w.heap.size, 0, none⟩ = some (.bool a0g) := XaR_4.out.cell 0
  have eaR1a : w2.cell? ⟨w.heap.size, 1, none⟩ = some (.slice a0m len0m cap0m) := XaR_4.out.cell 1
  have eaR2a : w2.cell? ⟨w.heap.size, 2, none⟩ = some (.slice a0d len0d cap0d) := XaR_4.out.cell 2
  go_wp2_with fail
  clear eaR0a eaR1a eaR2a
  refine (toRat_any a0g a0m len0m cap0m z0m a0d len0d cap0d z0d _ Inz0m.out.len Inz0m.out.le (Inz0m.out.rd.below BW4.out) Inz0d.out.len Inz0d.out.le (Inz0d.out.rd.below BW4.out)).mono ?_
  rintro e w3 ⟨v0, v1, rfl, ho0, ho1, hap10, hb⟩
  have BW5 := Lib.hid (BW4.out.trans (hb.mono BW4.out.size))
  have sz5 : w2.heap.size ≤ w3.heap.size := hb.size
  have XaR_5 := Lib.hid (XaR_4.out.below hb XaR_4.out.lt)
  obtain ⟨Ax0m, cx0m, rfl⟩ := own_slice ho0
  have Ux0m := Lib.hid (fun k (hk : (Value.slice Ax0m len0m cx0m).ownBlock = some k) => (ho0.lt k hk).2)
  have Ox0m_5 := Lib.hid ho0
  clear ho0
  obtain ⟨Ax0d, cx0d, rfl⟩ := own_slice ho1
  have Ux0d := Lib.hid (fun k (hk : (Value.slice Ax0d len0d cx0d).ownBlock = some k) => (ho1.lt k hk).2)
  have Ox0d_5 := Lib.hid ho1
  clear ho1
  have APx0d_x0m := Lib.hid hap10
  have APx0m_x0d := Lib.hid hap10.symm
  clear hap10
  clear hb
  have BW6 := Lib.hid (BW5.out.alloc BW5.out.size (.cells #[.bool a0g, .slice Ax0m len0m cx0m, .slice Ax0d len0d cx0d] 31))
  have sz6 : w3.heap.size ≤ (w3.alloc (.cells #[.bool a0g, .slice Ax0m len0m cx0m, .slice Ax0d len0d cx0d] 31)).heap.size := (by simp)
  have Ox0m_6 := Lib.hid (Ox0m_5.out.alloc (.cells #[.bool a0g, .slice Ax0m len0m cx0m, .slice Ax0d len0d cx0d] 31))
  have Ox0d_6 := Lib.hid (Ox0d_5.out.alloc (.cells #[.bool a0g, .slice Ax0m len0m cx0m, .slice Ax0d len0d cx0d] 31))
  have XaR_6 := Lib.hid (XaR_5.out.alloc (.cells #[.bool a0g, .slice Ax0m len0m cx0m, .slice Ax0d len0d cx0d] 31))
  have Xx0_6 := Lib.hid (Box.new w3 31 #[.bool a0g, .slice Ax0m len0m cx0m, .slice Ax0d len0d cx0d])
  go_wp2_with fail
  refine (impl_formatRat a0g Ax0m len0m cx0m z0m Ax0d len0d cx0d z0d _ (Inz0m.out.own Ox0m_6.out) (room_own Ox0m_6.out) (Inz0d.out.own Ox0d_6.out) (room_own Ox0d_6.out) (Ht.out.below BW6.out)).mono ?_
  rintro e w4 ⟨r2_00, rfl, his, hb⟩
  have BW7 := Lib.hid (BW6.out.trans (hb.mono BW6.out.size))
  have sz7 : (w3.alloc (.cells #[.bool a0g, .slice Ax0m len0m cx0m, .slice Ax0d len0d cx0d] 31)).heap.size ≤ w4.heap.size := hb.size
  have Ox0m_7 := Lib.hid (own_below Ox0m_6.out hb)
  have Ox0d_7 := Lib.hid (own_below Ox0d_6.out hb)
  have XaR_7 := Lib.hid (XaR_6.out.below hb XaR_6.out.lt)
  have Xx0_7 := Lib.hid (Xx0_6.out.below hb Xx0_6.out.lt)
  clear hb
  obtain rfl := formatRat_unique IS.out his
  clear his
  go_wp2_with fail
  have BW8 := Lib.hid BW7.out.drew
  have sz8 : w4.heap.size ≤ w4.drew.heap.size := Nat.le_refl _
  have Ox0m_8 := Lib.hid (own_drew Ox0m_7.out)
  have Ox0d_8 := Lib.hid (own_drew Ox0d_7.out)
  have XaR_8 := Lib.hid XaR_7.out.drew
  have Xx0_8 := Lib.hid Xx0_7.out.drew
  have cvx00 : Hid ((#[.bool a0g, .slice Ax0m len0m cx0m, .slice Ax0d len0d cx0d] : Array Value)[0]? = some (.bool a0g)) := rfl
  have cvx01 : Hid ((#[.bool a0g, .slice Ax0m len0m cx0m, .slice Ax0d len0d cx0d] : Array Value)[1]? = some (.slice Ax0m len0m cx0m)) := rfl
  have cvx02 : Hid ((#[.bool a0g, .slice Ax0m len0m cx0m, .slice Ax0d len0d cx0d] : Array Value)[2]? = some (.slice Ax0d len0d cx0d)) := rfl
  have cvaR0 : Hid ((#[.bool a0g, .slice a0m len0m cap0m, .slice a0d len0d cap0d] : Array Value)[0]? = some (.bool a0g)) := rfl
  have cvaR1 : Hid ((#[.bool a0g, .slice a0m len0m cap0m, .slice a0d len0d cap0d] : Array Value)[1]? = some (.slice a0m len0m cap0m)) := rfl
  have cvaR2 : Hid ((#[.bool a0g, .slice a0m len0m cap0m, .slice a0d len0d cap0d] : Array Value)[2]? = some (.slice a0d len0d cap0d)) := rfl
  go_region_held3 (fun w' => w'.cell? ⟨w3.heap.size, 0, none⟩ = some (.bool a0g) ∧ w'.cell? ⟨w3.heap.size, 1, none⟩ = some (.slice Ax0m len0m cx0m) ∧ w'.cell? ⟨w3.heap.size, 2, none⟩ = some (.slice Ax0d len0d cx0d) ∧ w'.cell? ⟨w.heap.size, 0, none⟩ = some (.bool a0g) ∧ w'.cell? ⟨w.heap.size, 1, none⟩ = some (.slice a0m len0m cap0m) ∧ w'.cell? ⟨w.heap.size, 2, none⟩ = some (.slice a0d len0d cap0d)) (first | with_reducible exact ⟨cellS Xx0_10 cvx00, cellS Xx0_10 cvx01, cellS Xx0_10 cvx02, cellS XaR_10 cvaR0, cellS XaR_10 cvaR1, cellS XaR_10 cvaR2⟩ | with_reducible exact ⟨cellS Xx0_9 cvx00, cellS Xx0_9 cvx01, cellS Xx0_9 cvx02, cellS XaR_9 cvaR0, cellS XaR_9 cvaR1, cellS XaR_9 cvaR2⟩ | with_reducible exact ⟨cellS Xx0_8 cvx00, cellS Xx0_8 cvx01, cellS Xx0_8 cvx02, cellS XaR_8 cvaR0, cellS XaR_8 cvaR1, cellS XaR_8 cvaR2⟩) (first | (go_at_call 8; refine (eqRat_same a0g Ax0m At2m len0m cx0m ct2m z0m Ax0d At2d len0d cx0d ct2d z0d _ Inz0m.out.len (by unfold maxLen; omega) (Reads.of_own Ox0m_9.out) (Reads.of_own Ot2m_9.out) Inz0d.out.len (by unfold maxLen; omega) (Reads.of_own Ox0d_9.out) (Reads.of_own Ot2d_9.out)).mono ?_; rintro e w6 ⟨rfl, hb⟩; have BW10 := Lib.hid (BW9.out.trans (hb.mono BW9.out.size)); have sz10 : w5.heap.size ≤ w6.heap.size := hb.size; have Ox0m_10 := Lib.hid (own_below Ox0m_9.out hb); have Ox0d_10 := Lib.hid (own_below Ox0d_9.out hb); have Ot2m_10 := Lib.hid (own_below Ot2m_9.out hb); have Ot2d_10 := Lib.hid (own_below Ot2d_9.out hb); have XaR_10 := Lib.hid (XaR_9.out.below hb XaR_9.out.lt); have Xx0_10 := Lib.hid (Xx0_9.out.below hb Xx0_9.out.lt); clear hb) | (go_at_call 6; refine (toRat_any a0g a0m len0m cap0m z0m a0d len0d cap0d z0d _ Inz0m.out.len Inz0m.out.le (Inz0m.out.rd.below BW8.out) Inz0d.out.len Inz0d.out.le (Inz0d.out.rd.below BW8.out)).mono ?_; rintro e w5 ⟨v0, v1, rfl, ho0, ho1, hap10, hb⟩; have BW9 := Lib.hid (BW8.out.trans (hb.mono BW8.out.size)); have sz9 : w4.drew.heap.size ≤ w5.heap.size := hb.size; have Ox0m_9 := Lib.hid (own_below Ox0m_8.out hb); have Ox0d_9 := Lib.hid (own_below Ox0d_8.out hb); have XaR_9 := Lib.hid (XaR_8.out.below hb XaR_8.out.lt); have Xx0_9 := Lib.hid (Xx0_8.out.below hb Xx0_8.out.lt); obtain ⟨At2m, ct2m, rfl⟩ := own_slice ho0; have Ut2m := Lib.hid (fun k (hk : (Value.slice At2m len0m ct2m).ownBlock = some k) => (ho0.lt k hk).2); have Ot2m_9 := Lib.hid ho0; clear ho0; obtain ⟨At2d, ct2d, rfl⟩ := own_slice ho1; have Ut2d := Lib.hid (fun k (hk : (Value.slice At2d len0d ct2d).ownBlock = some k) => (ho1.lt k hk).2); have Ot2d_9 := Lib.hid ho1; clear ho1; have APt2d_t2m := Lib.hid hap10; have APt2m_t2d := Lib.hid hap10.symm; clear hap10; clear hb))
  clear cvx00 cvx01 cvx02 cvaR0 cvaR1 cvaR2
  clear Ox0m_10 Ux0m Ox0d_10 Ux0d Xx0_10
  clear Ot2m_10 Ut2m Ot2d_10 Ut2d
  go_wp2_with fail
  go_ret
  exact ⟨rfl, BW10.out⟩
theorem given {W : World} (h : laidMetH Tryd.prog Rows.fnExactFormatRatRow.laid W) : Tab W := by
  rw [MakeChecks.laidMetH_plain _ _ _ (by kernel_rfl)] at h
  obtain ⟨ps, h, _⟩ := h
  obtain ⟨ps, h⟩ := laid_tail h
  obtain ⟨ps, h⟩ := laid_tail h
  exact Tab.of_vars h
end Go.Proofs.YtbfanjalinkmhaaDoor.fnExactFormatRat
